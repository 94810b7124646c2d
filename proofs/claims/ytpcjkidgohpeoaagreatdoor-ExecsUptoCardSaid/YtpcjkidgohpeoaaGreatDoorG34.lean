import Derived.Test.YtpcjkidgohpeoaaGreatDoorG32
import Derived.Lay
import Derived.LaidLaws
set_option maxRecDepth 100000
set_option maxHeartbeats 8000000
set_option linter.all false
namespace Go.Proofs.YtpcjkidgohpeoaaGreatDoor
open RowKit Maps Proofs.Tryz
variable {x:Int×Nat} {w' w W:World} {b m cb B kb tb ab am q so bb dc s1 r pm n lc s2 tk0 pb:Nat} {k:Dr} {d vt vw:Value} {P:PK} {NB MB Q T M:List Nat} {V cs:List Value} {mm pid a c now:Int} {la:Option Addr} {out typed:List Int} {PL:List (Int×Nat)} {D:Nat->PD} {ks:List AP} {R:World->Prop} {kp:Addr}
def fY (p:AP) (cb:Nat):List Value:=if p.st=0 then FJ cb 3 else GA
def Nq (cb:Nat) (p:AP):PD:=⟨p,0,fY p cb,if p.st=0 then 3 else 0,if p.st=0 then GS 3 else []⟩
def LK (D:Nat->PD) (PL:List (Int×Nat)):List AP:=PL.map (λx=>(D x.2).p)
structure XC (w:World) (kb pm n cb:Nat) (PL:List (Int×Nat)) (D:Nat->PD) (ks:List AP):Prop where
 xk:XK w kb pm n cb PL D
 canon:∀x∈PL,D x.2=Nq cb (D x.2).p
 aps:ks=LK D PL
section
def XC.len (h:XC w kb pm n cb PL D ks):ks.length=PL.length:=by rw [h.aps];exact zc _
def XC.mem (h:XC w kb pm n cb PL D ks) (hx:x∈PL):(D x.2).p∈ks/\(D x.2).p.pid=x.1:=⟨by rw [h.aps];exact ui hx,(h.xk.each x hx).2.2⟩
def XC.of (h:XC w kb pm n cb PL D ks) {y:AP} (hy:y∈ks):∃x∈PL,(D x.2).p=y/\x.1=y.pid:=by
 rw [h.aps] at hy;obtain ⟨x,hx,rfl⟩:=yt.1 hy;exact ⟨x,hx,rfl,((h.xk.each x hx).2.2).symm⟩
def XC.frames (h:XC w kb pm n cb PL D ks):Cc ks=(PL.map (lenOf D)).sum:=by rw [h.aps];unfold Cc LK;rw [rx];rfl
def XC.lens (h:XC w kb pm n cb PL D ks):ks.map (λz=>z.PS.length)=PL.map (lenOf D):=by rw [h.aps];unfold LK;rw [rx];rfl
def XC.below (h:XC w kb pm n cb PL D ks) (hb:Bw w w'):XC w' kb pm n cb PL D ks:=⟨h.xk.below hb,h.canon,h.aps⟩
def XC.grown (h:XC w kb pm n cb PL D ks) (hg:w.grownBy w' (some b)) (h1:kb≠b) (h2:pm≠b) (h3:∀x∈PL,x.2≠b):XC w' kb pm n cb PL D ks:=⟨h.xk.grown hg h1 h2 h3,h.canon,h.aps⟩
def XC.where_ (h:XC w kb pm n cb PL D ks) {k:Int}:Bg PL k=none↔∀y∈ks,y.pid≠k:=by
 constructor
 ·intro hw y hy e;obtain ⟨x,hx,_,e2⟩:=h.of hy;have:=DJ h.xk.map.2.1 hx;rw [e2,e,hw] at this;cases this
 ·intro hf;refine Qu (λx hx e=> ?_);exact hf _ (h.mem hx).1 ((h.mem hx).2.trans e)
def XC.least (h:XC w kb pm n cb PL D ks) {k:Nat} (hk:Uv PL k):JR ks k:=by
 refine ⟨hk.pos,h.where_.1 hk.free,λj h1 h2=> ?_⟩;have h3:=hk.used j h1 h2;apply tf;intro hn;exact h3 (h.where_.2 (λy hy e=>hn ⟨y,hy,e⟩))
def D5 {α β:Type} {f:α->Bool} {g:α->β} {q:β->Bool}:∀(l:List α),(∀z∈l,f z=q (g z))->(l.filter f).map g=(l.map g).filter q
 |[],_=>rfl
 |a::r,h=>by
  have h1:=D5 r (λz hz=>h z (by simp [hz]));have h2:=h a sI;rw [ub];by_cases e:f a=true
  ·rw [tg e,tg (by rw [<-h2];exact e),ub,h1]
  ·rw [ua e,ua (by rw [<-h2];exact e),h1]
def Nr (h:XC w kb pm n cb PL D ks) {y:Int×Nat} (hx:x∈PL) (hy:y∈PL):x.1=y.1↔x.2=y.2:=by
 constructor
 ·intro e;have h1:=DJ h.xk.map.2.1 hx;have h2:=DJ h.xk.map.2.1 hy;rw [e,h2] at h1;exact (zr h1).symm
 ·intro e;rw [h.xk.one x hx y hy e]
def XC.put (h:XC w kb pm n cb PL D ks) (hx:x∈PL) {d:PD} (hk:XK w' kb pm n cb PL (upd D x.2 d)) (hd:d=Nq cb d.p) (hp:d.p.pid=x.1):XC w' kb pm n cb PL (upd D x.2 d) (IV ks d.p):=by
 refine ⟨hk,λy hy=> ?_,?_⟩
 ·by_cases e:y.2=x.2
  ·rw [e,Fx];exact hd
  ·rw [GG _ _ e];exact h.canon y hy
 ·rw [h.aps];unfold IV LK;rw [rx];refine qv λy hy=> ?_;show (if (D y.2).p.pid=d.p.pid then d.p else (D y.2).p)=(upd D x.2 d y.2).p;have C:=(h.mem hy).2;by_cases e:y.2=x.2
  ·rw [e,Fx,vu (by rw [hp,<-e,C];exact (Nr h hy hx).2 e)]
  ·rw [GG _ _ e,vz (λq=>e ((Nr h hy hx).1 (by rw [<-C,q,hp])))]
def XC.ins {d:PD} (h:XC w kb pm n cb PL D ks) (hk:XK w' kb pm m cb (Mk PL (d.p.pid,b)) (upd D b d)) (hd:d=Nq cb d.p) (hf:∀y∈ks,y.pid≠d.p.pid) (hb:∀x∈PL,x.2≠b):XC w' kb pm m cb (Mk PL (d.p.pid,b)) (upd D b d) (Lx ks d.p):=by
 have C:∀y∈PL,y.1≠d.p.pid:=λy hy e=>hf _ (h.mem hy).1 ((h.mem hy).2.trans e);refine ⟨hk,λy hy=> ?_,?_⟩
 ·rcases (Fw (x:=(d.p.pid,b)) C y).1 hy with rfl|q
  ·rw [Fx];exact hd
  ·rw [GG _ _ (hb y q)];exact h.canon y q
 ·have hu:∀(f:Int×Nat->Bool),(PL.filter f).map (λx=>(upd D b d x.2).p)=(PL.filter f).map (λx=>(D x.2).p):=λf=>qv λx hx=>by
   rw [GG _ _ (hb x (vk.1 hx).1)]
  rw [h.aps];unfold Lx Mk LK;rw [xj,ub,hu,hu,D5 (q:=λz:AP=>decide (z.pid<d.p.pid)) PL (λz hz=>by rw [(h.mem hz).2]),D5 (q:=λz:AP=>decide (d.p.pid<z.pid)) PL (λz hz=>by rw [(h.mem hz).2]),Fx]
def XC.filter {z:Int} (h:XC w kb pm n cb PL D ks) (hk:XK w' kb pm n cb (PL.filter (λy=>y.1 !=z)) D):XC w' kb pm n cb (PL.filter (λy=>y.1 !=z)) D (ks.filter (λy=>y.pid !=z)):=by
 refine ⟨hk,λy hy=>h.canon y (vk.1 hy).1,?_⟩;rw [h.aps];unfold LK;rw [D5 (q:=λy:AP=>y.pid !=z) PL (λy hy=>by rw [(h.mem hy).2])]
def XC.kids (h:XC w kb pm n cb PL D ks) (pid:Int):TV ks pid=(DM (λy=>(D y.2).p.par) pid PL).map (λx=>(D x.2).p):=by
 rw [h.aps];unfold TV DM LK;rw [D5 (q:=λy:AP=>y.par==pid) PL (λy hy=>rfl)]
def XC.waitZ (h:XC w kb pm n cb PL D ks) (pid:Int):waitZ ks pid=(Ls D (DM (λy=>(D y.2).p.par) pid PL)).map (λx=>(D x.2).p):=by
 unfold Go.Proofs.YtpcjkidgohpeoaaGreatDoor.waitZ;rw [h.kids,List.find?_map];rfl
def Z4 {p:AP} (hl:p.le=0) (s:Int):em (Nq cb p) s=Nq cb (p.ended s):=by
 unfold em Nq AP.ended fY;simp [hl]
def XC.ended {w':World} {s:Int} (h:XC w kb pm n cb PL D ks) {x:Int×Nat} (hx:x∈PL) (hk:XK w' kb pm n cb PL (ended D PL x s)) (hl:(D x.2).p.le=0) (J:(D x.2).p.par≠x.1):XC w' kb pm n cb PL (ended D PL x s) (Nm ks x.1 s):=by
 have L:em (D x.2) s=Nq cb ((D x.2).p.ended s):=by
  conv=>lhs;rw [h.canon x hx]
  exact Z4 hl s
 have H:∀y∈PL,Go.Proofs.YtpcjkidgohpeoaaGreatDoor.ended D PL x s y.2=Nq cb (GI x.1 s (D y.2).p):=λy hy=>by
  have G:=(h.mem hy).2;unfold Go.Proofs.YtpcjkidgohpeoaaGreatDoor.ended Jc;by_cases e:y=x
  ·subst e
   have hn:y.2∉(DM (λz=>(FE D y s z.2).p.par) y.1 PL).map (·.2):=λhm=>by
    obtain ⟨z,hz,e2⟩:=yt.1 hm;have E:=vk.1 hz;obtain rfl:=h.xk.one z E.1 y hy e2;have:(FE D z s z.2).p.par=z.1:=sU E.2;unfold FE at this;rw [Fx] at this;exact J this
   rw [vz hn];unfold FE GI;rw [Fx,vu G,L]
  ·have hb:y.2≠x.2:=λq=>e (h.xk.one y hy x hx q);have I:(D y.2).p.pid≠x.1:=λq=>hb ((Nr h hy hx).1 (G.symm.trans q));have F:FE D x s y.2=D y.2:=by unfold FE;exact GG _ _ hb
   have C:y.2∈(DM (λz=>(FE D x s z.2).p.par) x.1 PL).map (·.2)↔(D y.2).p.par=x.1:=by
    constructor
    ·intro hm;obtain ⟨z,hz,e2⟩:=yt.1 hm;have E:=vk.1 hz;obtain rfl:=h.xk.one z E.1 y hy e2;have:(FE D x s z.2).p.par=x.1:=sU E.2;rwa [F] at this
    ·intro hp;refine yt.2 ⟨y,vk.2 ⟨hy,?_⟩,rfl⟩;show ((FE D x s y.2).p.par==x.1)=true;rw [F,hp];simp
   unfold GI;rw [vz I];by_cases hp:(D y.2).p.par=x.1
   ·rw [vu (C.2 hp),vu hp,F]
    conv=>lhs;rw [h.canon y hy]
    rfl
   ·rw [vz (λq=>hp (C.1 q)),vz hp,F];exact h.canon y hy
 refine ⟨hk,λy hy=> ?_,?_⟩
 ·rw [H y hy];rfl
 ·rw [h.aps];unfold Nm LK;rw [rx];refine qv λy hy=> ?_;rw [H y hy];rfl
end
def aA:eN 223:=enters_of func223 kf rfl
def aB:eN 224:=enters_of func224 kf rfl
def aD:eN 225:=enters_of func225 kf rfl
def aE:eN 226:=enters_of func226 kf rfl
def fl:eN 239:=enters_of func239 kf rfl
def aF:eN 240:=enters_of func240 kf rfl
def aG:eN 241:=enters_of func241 kf rfl
structure XE (w:World) (B kb tb ab am:Nat) (P:PK) (NB MB:List Nat) (V:List Value) (mm:Int):Prop where
 k0:w.cell? (xK kb 0)=some (iV P.lp)
 k1:w.cell? (xK kb 1)=some (iV P.lf)
 k5:w.cell? (xK kb 5)=some (qP tb 0)
 tree:BS w B tb ab am P NB MB V oc0
 inv:EX P
 bytes:By P.cs
 used:AM P.cs<=500000/\P.xs.length<=900000
 li:0<=P.li/\P.li<=1000000
 lb:(AM P.cs:Int)<=P.lb/\P.lb<=1000000
 lf:0<=P.lf/\P.lf<=1000000
 lp:P.lp<=1000
 hdr:w.rangeAt 1 0 DK
 hdl:1<w.heap.size
 mx:w.cell? (xK 3 0)=some (iV mm)
 mxl:3<w.heap.size
def XE.below (h:XE w B kb tb ab am P NB MB V mm) (hb:Bw w w'):XE w' B kb tb ab am P NB MB V mm:=by
 have hc:∀(b o:Nat) (v:Value),w.cell? (xK b o)=some v->w'.cell? (xK b o)=some v:=λb o v hv=>by rw [hb.cell (p:=(xK b o)) (zu w _ hv)];exact hv
 exact ⟨hc _ _ _ h.k0,hc _ _ _ h.k1,hc _ _ _ h.k5,h.tree.below hb,h.inv,h.bytes,h.used,h.li,h.lb,h.lf,h.lp,λj v hj=>hc _ _ _ (h.hdr j v hj),yz h.hdl hb.size,hc _ _ _ h.mx,yz h.mxl hb.size⟩
structure IW (w:World) (k:Dr) (la:Option Addr) (q so bb dc:Nat) (Q:List Nat):Prop where
 la:0<k.ss.length->la=some (xK q so)
 ql:q<w.heap.size
 strs:∀i,i<k.ss.length->w.cell? (xK q (so+i))=some (.string (k.ss.getD i ByteArray.empty))
 sn:k.ss.length<=1000
 ssz:k.s.size<=maxLen
 bs:∀i,i<k.B.length->w.cell? (xK bb i)=some (.int .u8 (k.B.getD i 0))
 bl:bb<w.heap.size
 bq:bb∉Q
 dc:k.B.length<=dc
def IW.below (h:IW w k la q so bb dc Q) (hb:Bw w w'):IW w' k la q so bb dc Q:=
 ⟨h.la,yz h.ql hb.size,λi hi=>by rw [hb.cell (p:=(xK q (so+i))) h.ql];exact h.strs i hi,h.sn,h.ssz,λi hi=>by rw [hb.cell (p:=(xK bb i)) h.bl];exact h.bs i hi,yz h.bl hb.size,h.bq,h.dc⟩
def It (s1:Nat) (w:World) (d:Value) (out:List Int):Prop:=(out=[]/\d= sN)\/∃gb,d= sL gb 0 out.length out.length/\s1<=gb/\AE w gb 5 (AF out)
def FV (P:PK) (ks:List AP) (pid:Int) (k:Dr) (kb pm n cb:Nat) (Q:List Nat) (s1:Nat) (a b:Int) (d:Value) (c:Int) (w':World):Prop:=
 ∃o,DoR P ks pid k o/\a=o.n/\b=o.m/\c=o.c/\It s1 w' d o.out/\∃n' PL' D',n'<=n+1/\XC w' kb pm n' cb PL' D' o.ks/\∀y∈PL',y.2∈Q\/s1<=y.2
def It.below (h:It s1 w d out) (hb:Bw w w'):It s1 w' d out:=by
 rcases h with h|⟨gb,h1,h2,h3⟩
 ·exact .inl h
 ·exact .inr ⟨gb,h1,h2,h3.below hb h3.lt⟩
def It.grown (h:It s1 w d out) (hg:w.grownBy w' (some r)) (hr:r<s1):It s1 w' d out:=by
 rcases h with h|⟨gb,h1,h2,h3⟩
 ·exact .inl h
 ·exact .inr ⟨gb,h1,h2,h3.grown hg sO⟩
def It.slice (h:It s1 w d out):∃sa sn sc,d= .slice sa sn sc:=by
 rcases h with ⟨_,h⟩|⟨gb,h,_⟩
 ·exact ⟨_,_,_,h⟩
 ·exact ⟨_,_,_,h⟩
section
variable {b:Int}
def FV.below (h:FV P ks pid k kb pm n cb Q s1 a b d c w) (hb:Bw w w'):FV P ks pid k kb pm n cb Q s1 a b d c w':=by
 obtain ⟨o,h1,h2,h3,h4,h5,n',C,D',h6,h7,h8⟩:=h;exact ⟨o,h1,h2,h3,h4,h5.below hb,n',C,D',h6,h7.below hb,h8⟩
def FV.grown (h:FV P ks pid k kb pm n cb Q s1 a b d c w) (hg:w.grownBy w' (some r)) (hr:r<s1) (hk:kb≠r) (hp:pm≠r) (hq:r∉Q):FV P ks pid k kb pm n cb Q s1 a b d c w':=by
 obtain ⟨o,h1,h2,h3,h4,h5,n',C,D',h6,h7,h8⟩:=h;refine ⟨o,h1,h2,h3,h4,h5.grown hg hr,n',C,D',h6,h7.grown hg hk hp (λy hy e=> ?_),h8⟩;rcases h8 y hy with q|q
 ·exact hq (e▸q)
 ·omega
end
def fm (hE:XE w B kb tb ab am P NB MB V mm) (hX:XC w kb pm n cb PL D ks) (hK:KOk P ks) (hQ:∀y∈PL,y.2∈Q) (hA:IW w k la q so bb dc Q) (hn:n<=10000) (b7:s1<=w.heap.size) (hx:x∈PL) (U:(D x.2).p.st=0) (fn:Nat)
  (hf:(k.kind=1/\fn=223)\/(k.kind=2/\fn=224)\/(k.kind=3/\fn=225)\/(k.kind=4/\fn=226)\/(k.kind=17/\fn=239)\/(k.kind=18/\fn=240)\/(k.kind=19/\fn=241)):
  cT fn #[qP kb 0,qP x.2 0,.agg #[iV k.kind,iV k.a,iV k.b,.string k.s,.slice la k.ss.length lc,sL bb 0 k.B.length dc]] w λe w'=>∃a b d c,e=EJ a b d c/\FV P ks x.1 k kb pm n cb Q s1 a b d c w'/\At (pm::Q) w w':=by
 have H:=hX.xk;obtain ⟨a5,E⟩:=hX.mem hx;have a6:=hK.each _ a5;have b1:=hX.len;have a8:=hK.cnt;have N:=hX.frames;have b8:=hK.frames;have c0:=hE.lp;have X:=hE.lf;have O:PL.length<=1000:=om;have I:(PL.map (lenOf D)).sum<=1000000:=om;have L:∀o,Ot P ks (D x.2).p k o->DoR P ks x.1 k o:=λo ho=> .inr ⟨_,a5,E,.inr ⟨U,ho⟩⟩;have G:=hX.canon x hx
 have C:∀(c:Int) (w':World),Bw w w'->Ot P ks (D x.2).p k (D6 ks c)->∃a b d c',Ey c=EJ a b d c'/\FV P ks x.1 k kb pm n cb Q s1 a b d c' w'/\At (pm::Q) w w':=λc w' hb ho=>
  ⟨0,0,sN,c,rfl,⟨D6 ks c,L _ ho,rfl,rfl,rfl,.inl ⟨rfl,rfl⟩,n,PL,D,om,hX.below hb,λy hy=> .inl (hQ y hy)⟩,At.of_below hb⟩
 have J:∀(nn:Int) (w':World) (dd:PD),XK w' kb pm n cb PL (upd D x.2 dd)->At [x.2] w w'->dd=Nq cb dd.p->dd.p.pid=x.1->Ot P ks (D x.2).p k ⟨nn,0,[],0,IV ks dd.p⟩->∃a b d c',EJ nn 0 sN 0=EJ a b d c'/\FV P ks x.1 k kb pm n cb Q s1 a b d c' w'/\At (pm::Q) w w':=λnn w' dd hk ho hd hp hw=>
  ⟨nn,0,sN,0,rfl,⟨_,L _ hw,rfl,rfl,rfl,.inl ⟨rfl,rfl⟩,n,PL,_,om,hX.put hx hk hd hp,λy hy=> .inl (hQ y hy)⟩,ho.mono (λb hb=>by simp at hb;subst hb;exact ut _ (hQ x hx))⟩
 rcases hf with ⟨hk,rfl⟩|⟨hk,rfl⟩|⟨hk,rfl⟩|⟨hk,rfl⟩|⟨hk,rfl⟩|⟨hk,rfl⟩|⟨hk,rfl⟩
 ·
  refine (e9 kb pm n cb PL D x P.lp P.lf _ _ _ _ _ _ w H hx O (by unfold maxLen;omega) hE.k0 hE.k1 I X).mono ?_;intro e w' hp;rcases hp with ⟨a1,rfl,hb⟩|⟨a1,a2,rfl,hb⟩|⟨a1,a2,j,b,hj,rfl,b6,F,ho⟩
  ·exact C 19 w' hb (.inl ⟨hk,.inl ⟨om,rfl⟩⟩)
  ·refine C 7 w' hb (.inl ⟨hk,.inr (.inl ⟨om,?_,rfl⟩)⟩);rw [N];exact a2
  ·have hL:=hX.least hj
   have b5:IC (D x.2) (j:Int)=Nq cb (Fz (D x.2).p j):=by
    conv=>lhs;rw [G]
    unfold IC Nq Fz fY;simp [U]
   have b3:∀y∈PL,y.2≠b:=λy hy e=>o1 (H.each y hy).1.lt;have hC:=hX.ins (d:=IC (D x.2) (j:Int)) (b:=b) (m:=n+1) F (by rw [b5];rfl) hL.free b3;refine ⟨j,0,sN,0,rfl,⟨⟨j,0,[],0,Lx ks (Fz (D x.2).p j)⟩,L _ (.inl ⟨hk,.inr (.inr ⟨om,?_,j,hL,rfl⟩)⟩),rfl,rfl,rfl,.inl ⟨rfl,rfl⟩,n+1,_,_,zx _,hC,λy hy=> ?_⟩,ho.mono (λb hb=>by simp at hb;subst hb;exact ym)⟩
   ·rw [N];exact a2
   ·rcases (Fw (x:=((j:Int),b)) (λz hz e=>hL.free _ (hX.mem hz).1 ((hX.mem hz).2.trans e)) y).1 hy with rfl|q
    ·exact .inr (by show s1<=b;omega)
    ·exact .inl (hQ y q)
 ·
  obtain ⟨fi,a7⟩:=yj.1 hx;have Y:ks[fi]? =some (D x.2).p:=by rw [hX.aps];unfold LK;rw [ze,a7];rfl
  refine (fV P B tb ab am kb pm n cb fi q so lc la mm NB MB V k.s k.ss PL D x _ _ _ _ w H a7 hE.k1 I hE.tree hE.inv hE.bytes hE.used.1 hE.used.2 hE.li hE.lb X hE.k5 hA.sn hA.la hA.ql hA.strs hA.ssz hE.hdr hE.hdl hE.mx hE.mxl).mono ?_;intro e w' hp;rcases hp with ⟨c,he,rfl,hb⟩|⟨b2,rfl,F,ho⟩
  ·exact C c w' hb (.inr (.inl ⟨hk,fi,Y,.inl ⟨c,by rw [hX.lens];exact he,rfl⟩⟩))
  ·have b4:bw (D x.2) (P.fileOf k.s) k.ss=Nq cb (FK (D x.2).p (P.fileOf k.s) k.ss):=by
    conv=>lhs;rw [G]
    rfl
   exact J 0 w' _ F ho (by rw [b4];rfl) E (.inr (.inl ⟨hk,fi,Y,.inr ⟨by rw [hX.lens];exact b2,rfl⟩⟩))
 ·
  refine (eu kb pm n cb PL D x _ k.a _ _ _ _ w H hx O (by rw [U];decide)).mono ?_;intro e w' hp;rcases hp with ⟨a1,rfl,hb⟩|⟨a1,rfl,F,ho⟩
  ·exact C 18 w' hb (.inr (.inr (.inl ⟨hk,.inl ⟨by rw [E];exact a1,rfl⟩⟩)))
  ·have hC:=hX.ended hx F a6.le (by rw [<-E];exact a6.par.2.2.1);refine ⟨0,0,sN,0,rfl,⟨⟨0,0,[],0,Nm ks x.1 (k.a%256)⟩,L _ (.inr (.inr (.inl ⟨hk,.inr ⟨by rw [E];exact a1,by rw [E]⟩⟩))),rfl,rfl,rfl,.inl ⟨rfl,rfl⟩,n,PL,_,om,hC,λy hy=> .inl (hQ y hy)⟩,ho.mono (λb hb=> ?_)⟩;obtain ⟨y,hy,rfl⟩:=yt.1 hb;exact ut _ (hQ y hy)
 ·
  refine (er kb pm n cb PL D x _ _ _ _ _ _ w H hx O).mono ?_;intro e w' hp;have Z:=hX.kids x.1;have a4:=hX.waitZ x.1;rcases hp with ⟨a1,rfl,hb⟩|⟨a1,a2,rfl,hb⟩|⟨z,a1,rfl,F,ho⟩
  ·refine C 17 w' hb (.inr (.inr (.inr (.inl ⟨hk,.inl ⟨?_,rfl⟩⟩))));rw [E,Z,a1];rfl
  ·refine C 16 w' hb (.inr (.inr (.inr (.inl ⟨hk,.inr (.inl ⟨?_,?_,rfl⟩)⟩))))
   ·rw [E,Z];intro e;exact a1 (List.map_eq_nil_iff.1 e)
   ·rw [E,a4,a2];rfl
  ·have a9:z∈PL:=(vk.1 (yk a1)).1;have a0:=(hX.mem a9).2;refine ⟨z.1,(D z.2).p.su,sN,0,rfl,⟨⟨(D z.2).p.pid,(D z.2).p.su,[],0,ks.filter (λy=>y.pid !=(D z.2).p.pid)⟩,L _ (.inr (.inr (.inr (.inl ⟨hk,.inr (.inr ⟨(D z.2).p,by rw [E,a4,a1];rfl,rfl⟩)⟩)))),a0.symm,rfl,rfl,.inl ⟨rfl,rfl⟩,n,PL.filter (λy=>y.1 !=z.1),D,om,?_,λy hy=> .inl (hQ y (vk.1 hy).1)⟩,ho.mono (λb hb=>by simp at hb;subst hb;exact ym)⟩;show XC w' kb pm n cb (PL.filter (λy=>y.1 !=z.1)) D (ks.filter (λy=>y.pid !=(D z.2).p.pid));rw [a0];exact hX.filter F
 ·
  refine (jV kb pm n cb PL D x P.lf _ k.a _ _ _ _ w H hx hE.k1 I X).mono ?_;intro e w' hp;rcases hp with ⟨a1,rfl,hb⟩|⟨a1,a2,rfl,hb⟩|⟨a1,a2,a3,rfl,F,ho⟩
  ·exact C 6 w' hb (.inr (.inr (.inr (.inr (.inl ⟨hk,.inl ⟨a1,rfl⟩⟩)))))
  ·exact C 7 w' hb (.inr (.inr (.inr (.inr (.inl ⟨hk,.inr (.inl ⟨a1,by rw [N];exact a2,rfl⟩)⟩)))))
  ·exact J _ w' _ F ho (by (conv=>lhs;rw [G]);rfl) E (.inr (.inr (.inr (.inr (.inl ⟨hk,.inr (.inr ⟨a1,by rw [N];exact a2,a3,rfl⟩)⟩)))))
 ·
  refine (fG kb pm n cb PL D x _ k.a k.b _ _ _ w H hx).mono ?_;intro e w' hp;rcases hp with ⟨a1,rfl,hb⟩|⟨a1,a2,rfl,hb⟩|⟨a1,a2,gb,rfl,b9,hh,hb⟩
  ·exact C 6 w' hb (.inr (.inr (.inr (.inr (.inr (.inl ⟨hk,.inl ⟨a1,rfl⟩⟩))))))
  ·exact C 7 w' hb (.inr (.inr (.inr (.inr (.inr (.inl ⟨hk,.inr (.inl ⟨a1,a2,rfl⟩)⟩))))))
  ·have b0:(BG (D x.2).p.PS (IntKind.u64.wrap k.a) k.b.toNat).length=k.b.toNat:=by simp [BG]
   exact ⟨k.b,0,_,0,rfl,⟨⟨k.b,0,BG (D x.2).p.PS (IntKind.u64.wrap k.a) k.b.toNat,0,ks⟩,L _ (.inr (.inr (.inr (.inr (.inr (.inl ⟨hk,.inr (.inr ⟨a1,a2,rfl⟩)⟩)))))),rfl,rfl,rfl,.inr ⟨gb,by rw [b0],om,hh⟩,n,PL,D,om,hX.below hb,λy hy=> .inl (hQ y hy)⟩,At.of_below hb⟩
 ·
  refine (fH kb pm n cb PL D x _ k.a _ _ _ bb dc k.B w H hx hA.bs hA.bl (λe=>hA.bq (e▸hQ x hx)) hA.dc).mono ?_;intro e w' hp;rcases hp with ⟨a1,rfl,hb⟩|⟨a1,a2,rfl,hb⟩|⟨a1,a2,rfl,F,ho⟩
  ·exact C 6 w' hb (.inr (.inr (.inr (.inr (.inr (.inr (.inl ⟨hk,.inl ⟨a1,rfl⟩⟩)))))))
  ·exact C 7 w' hb (.inr (.inr (.inr (.inr (.inr (.inr (.inl ⟨hk,.inr (.inl ⟨a1,a2,rfl⟩)⟩)))))))
  ·exact J _ w' _ F ho (by (conv=>lhs;rw [G]);rfl) E (.inr (.inr (.inr (.inr (.inr (.inr (.inl ⟨hk,.inr (.inr ⟨a1,a2,rfl⟩)⟩)))))))
def It.mono (h:It s2 w d out) (hs:s1<=s2):It s1 w d out:=by
 rcases h with h|⟨gb,h1,h2,h3⟩
 ·exact .inl h
 ·exact .inr ⟨gb,h1,om,h3⟩
section
variable {b:Int}
def FV.mono (h:FV P ks pid k kb pm n cb Q s2 a b d c w) (hs:s1<=s2):FV P ks pid k kb pm n cb Q s1 a b d c w:=by
 obtain ⟨o,h1,h2,h3,h4,h5,n',C,D',h6,h7,h8⟩:=h;exact ⟨o,h1,h2,h3,h4,h5.mono hs,n',C,D',h6,h7,λy hy=>(h8 y hy).imp id (λq=>om)⟩
end
def Tc (h:∃sa sn sc,d= .slice sa sn sc):d.oneCell'=true:=by
 obtain ⟨_,_,_,rfl⟩:=h;rfl
def FV.slice {b:Int} (h:FV P ks pid k kb pm n cb Q s1 a b d c w):∃sa sn sc,d= .slice sa sn sc:=by
 obtain ⟨o,_,_,_,_,h5,_⟩:=h;exact h5.slice
def GM (kind:Int):Prop:=kind=1\/kind=2\/kind=3\/kind=4\/kind=17\/kind=18\/kind=19\/¬(1<=kind/\kind<=21)
def fq (hE:XE w B kb tb ab am P NB MB V mm) (hX:XC w kb pm n cb PL D ks) (hK:KOk P ks) (hQ:∀y∈PL,y.2∈Q) (F:∀l∈Q,l<w.heap.size) (hA:IW w k la q so bb dc Q) (hn:n<=10000) (hk:GM k.kind) (hx:x∈PL) (E:(D x.2).p.st=0):
  cT 140 #[qP kb 0,qP x.2 0,.agg #[iV k.kind,iV k.a,iV k.b,.string k.s,.slice la k.ss.length lc,sL bb 0 k.B.length dc]] w λe w'=>∃a b d c,e=EJ a b d c/\FV P ks x.1 k kb pm n cb Q (w.heap.size+2) a b d c w'/\At (pm::Q) w w':=by
 have I:=hX.xk.kl;have H:=hX.xk.map.lt;by_cases hb:1<=k.kind/\k.kind<=21
 ·obtain ⟨fn,hf,ht,C⟩:∃fn:Nat,((k.kind=1/\fn=223)\/(k.kind=2/\fn=224)\/(k.kind=3/\fn=225)\/(k.kind=4/\fn=226)\/(k.kind=17/\fn=239)\/(k.kind=18/\fn=240)\/(k.kind=19/\fn=241))/\Fe.getD k.kind.toNat .nilFunc= .func (.func fn) #[] #[]/\∀args w,(callFunc fn args).run prog w= .ok (.enter fn args) w:=by
   rcases hk with h|h|h|h|h|h|h|h
   ·exact ⟨_,.inl ⟨h,rfl⟩,by rw [h];rfl,aA⟩
   ·exact ⟨_,.inr (.inl ⟨h,rfl⟩),by rw [h];rfl,aB⟩
   ·exact ⟨_,.inr (.inr (.inl ⟨h,rfl⟩)),by rw [h];rfl,aD⟩
   ·exact ⟨_,.inr (.inr (.inr (.inl ⟨h,rfl⟩))),by rw [h];rfl,aE⟩
   ·exact ⟨_,.inr (.inr (.inr (.inr (.inl ⟨h,rfl⟩)))),by rw [h];rfl,fl⟩
   ·exact ⟨_,.inr (.inr (.inr (.inr (.inr (.inl ⟨h,rfl⟩))))),by rw [h];rfl,aF⟩
   ·exact ⟨_,.inr (.inr (.inr (.inr (.inr (.inr ⟨h,rfl⟩))))),by rw [h];rfl,aG⟩
   ·exact absurd hb h
  refine fe kb x.2 k.kind fn _ _ _ _ _ (pm::Q) w (FV P ks x.1 k kb pm n cb Q (w.heap.size+2)) hb ht C (λl hl=> ?_) (λa b d c w' h=>Tc h.slice) (λa b d c w' w'' r h hg h1 h2=>h.grown hg h2 om om (λhm=>o1 (F r hm))) (λW hW hs=> ?_)
  ·rcases vp.1 hl with rfl|hl
   ·exact H
   ·exact F l hl
  ·exact fm (hE.below hW) (hX.below hW) hK hQ (hA.below hW) hn hs hx E fn hf
 ·refine (jz kb x.2 k.kind _ _ _ _ _ w hb).mono ?_;rintro e w' ⟨rfl,G⟩;have hm:=hX.mem hx;exact ⟨0,0,sN,23,rfl,⟨D6 ks 23,.inr ⟨_,hm.1,hm.2,.inr ⟨E,.inr (.inr (.inr (.inr (.inr (.inr (.inr ⟨hb,rfl⟩))))))⟩⟩,rfl,rfl,rfl,.inl ⟨rfl,rfl⟩,n,PL,D,om,hX.below G,λy hy=> .inl (hQ y hy)⟩,At.of_below G⟩
def kC (hE:XE w B kb tb ab am P NB MB V mm) (hX:XC w kb pm n cb PL D ks) (hK:KOk P ks) (hQ:∀y∈PL,y.2∈Q) (H:∀l∈pm::Q,l<w.heap.size/\l≠0) (hA:IW w k la q so bb dc Q) (hn:n<=10000) (hk:GM k.kind) (C: -9223372036854775808<=pid/\pid<=9223372036854775807) (hg:Ge w) (I:0<w.heap.size):
  cT 86 #[qP kb 0,iV pid,.agg #[iV k.kind,iV k.a,iV k.b,.string k.s,.slice la k.ss.length lc,sL bb 0 k.B.length dc]] w λe w'=>∃a b d v,e= .returned (.tuple #[Br a b d,v])/\DoP w.heap.size (FV P ks pid k kb pm n cb Q (w.heap.size+2)) a b d v w'/\At (pm::Q) w w':=by
 have N:=hX.xk.kl;have O:=hX.xk.map.lt;have F:∀(c:Int),DoR P ks pid k (D6 ks c)->∀w',Bw w w'->FV P ks pid k kb pm n cb Q (w.heap.size+2) 0 0 sN c w':=λc ho w' hb=>⟨D6 ks c,ho,rfl,rfl,rfl,.inl ⟨rfl,rfl⟩,n,PL,D,om,hX.below hb,λy hy=> .inl (hQ y hy)⟩
 cases hw:Bg PL pid with
 |none=>
  exact cA kb pid 18 k.kind _ _ _ _ _ w dz hg I (pm::Q) _ (F 18 (.inl ⟨hX.where_.1 hw,rfl⟩)) (λW hb=>Z8 kb pm n PL pid W (hX.xk.below hb).k9 (hX.xk.below hb).map C hw)
 |some b=>
  have hx:=Ln hw;obtain ⟨L,J⟩:=hX.mem hx;simp only at L J
  have E:∀W,Bw w W->W.cell? (xK b 65811)=some (iV (D b).p.st):=λW hb=>by
   obtain ⟨h1,h2,_⟩:=(hX.xk.below hb).each (pid,b) hx;exact h1.cell (D4 h2 2 _ rfl)
  by_cases G:(D b).p.st=0
  ·refine kA kb b pid k.kind _ _ _ _ _ w hg I (pm::Q) H (FV P ks pid k kb pm n cb Q (w.heap.size+2)) (λa b d c w' h=>h.slice) (λa b d c w' w'' h hb=>h.below hb) (λa b d c w' w'' r h hg h1 h2=>h.grown hg h2 om om (λhm=>o1 (H r (ut _ hm)).1)) (λW hb=>Z9 kb pm n PL pid W (hX.xk.below hb).k9 (hX.xk.below hb).map C hw (by unfold cE;rw [E W hb,G])) (λW hb hs=> ?_);refine (fq (hE.below hb) (hX.below hb) hK hQ (λl hl=>yz (H l (ut _ hl)).1 hb.size) (hA.below hb) hn hk hx G).mono ?_;rintro e w' ⟨a,b',d,c,h1,h2,h3⟩;exact ⟨a,b',d,c,h1,h2.mono om,h3⟩
  ·exact cA kb pid 24 k.kind _ _ _ _ _ w dz hg I (pm::Q) _ (F 24 (.inr ⟨_,L,J,.inl ⟨G,rfl⟩⟩)) (λW hb=>fj kb pm n PL pid W (hX.xk.below hb).k9 (hX.xk.below hb).map C hw (E W hb) G)
def mV (hE:XE w B kb tb ab am P NB MB V mm) (hX:XC w kb pm n cb PL D ks) (hK:KOk P ks) (hQ:∀y∈PL,y.2∈Q) (C:∀l∈pm::Q,l<w.heap.size/\l≠0/\l≠tk0) (hA:IW w k la q so bb dc Q) (hn:n<=10000) (hk:GM k.kind) (G: -9223372036854775808<=pid/\pid<=9223372036854775807) (hg:Ge w) (H:0<w.heap.size) (hT:cE w tk0 0 (qP kb 0)):
  cT 46 #[qP tk0 0,iV pid,.agg #[iV k.kind,iV k.a,iV k.b,.string k.s,.slice la k.ss.length lc,sL bb 0 k.B.length dc]] w λe w'=>∃a b d v,e= .returned (.tuple #[Br a b d,v])/\DoP (w.heap.size+2) (FV P ks pid k kb pm n cb Q (w.heap.size+2)) a b d v w'/\At (pm::Q) w w':=by
 have L:=hX.xk.kl;have N:=hX.xk.map.lt;refine oM tk0 kb pid k.kind _ _ _ _ _ w hT (pm::Q) (λl hl=>⟨(C l hl).1,(C l hl).2.2⟩) (DoP (w.heap.size+2) (FV P ks pid k kb pm n cb Q (w.heap.size+2))) (λa b d v w' h=> ?_) (λa b d v w' w'' r h E h1 h2=> ?_) (λW hb hs=> ?_)
 ·rcases h with ⟨c,q',a',b',d',_,_,_,h4,_⟩|⟨_,h⟩
  ·rw [h4];rfl
  ·exact Tc h.slice
 ·have hr:r∉Q:=λhm=>o1 (C r (ut _ hm)).1;rcases h with ⟨c,q',a',b',d',h3,h4,h5,h6,h7,h8,h9,F⟩|⟨h3,h4⟩
  ·exact .inl ⟨c,q',a',b',d',h3,h4,h5,h6,h7,h8,E.cell h9 sO,F.grown E h2 om om hr⟩
  ·exact .inr ⟨h3,h4.grown E h2 om om hr⟩
 ·have J:Ge W:=by unfold Ge at hg ⊢;rw [hb.cell (p:=(xK 0 0)) H];exact hg
  refine (kC (hE.below hb) (hX.below hb) hK hQ (λl hl=>⟨yz (C l hl).1 hb.size,(C l hl).2.1⟩) (hA.below hb) hn hk G J (yz H hb.size)).mono ?_;rintro e w' ⟨a,b,d,v,h1,h2,h3⟩;refine ⟨a,b,d,v,h1,?_,h3⟩;rcases h2 with ⟨c,q',a',b',d',h4,h5,h6,h7,h8,h9,F,I⟩|⟨h4,h5⟩
  ·exact .inl ⟨c,q',a',b',d',h4,h5,h6,h7,h8,om,F,I.mono om⟩
  ·exact .inr ⟨h4,h5.mono om⟩
def aK (now:Int):Int:=IntKind.i64.wrap (now+1)
def kG (kb:Nat) (now:Int) (row:List Value) (w:World) (h:AE w kb 110 row) (h7:row[7]? =some (iV now)) (h8:row[8]? =some sN):
  cT 109 #[qP kb 7] w λe w'=>e= .returned (.tuple #[])/\AE w' kb 110 (row.set 7 (iV (aK now)))/\w.grownBy w' (some kb):=by
 have c7:cE w kb 7 (iV now):=h.cell h7;have f7:=h.frozen 7;obtain ⟨N,hN⟩:=xE (aK now);have E:IntKind.i64.wrap (now+1)=N:=hN.symm;obtain ⟨W1,F⟩:=xE (w.setCell (xK kb 7) (iV N));have G:AE W1 kb 110 (row.set 7 (iV N)):=by rw [F];exact h.set 7 _
 have C:w.grownBy W1 (some kb):=by rw [F];exact AI (zj w _) 7 _
 have c8:W1.cell? (xK kb 8)=some sN:=G.cell (by rw [uc dz];exact h8)
 have R1:=AC (show ∀w':World,w'.cell? (xK kb 8)=some sN->(Instr.loadAt 106 (qP kb 8)).run prog w'= .ok sN w' from λw' d=>by
  clear h h7 h8 c7 f7 hN E F G C c8
  go_simp)
 have R2:=AC (show ∀w':World,((do eqGuard .gtr 3 (.tmp 13) (.const (iV 0)) (iV 0) (iV 0);binOp .gtr 3 (iV 0) (iV 0):Sem Value)).run prog w'= .ok (.bool false) w' from λw'=>by
  clear h h7 h8 c7 f7 hN E F G C c8 R1
  go_simp)
 have H:Hid (W1.drew.cell? (xK kb 8)=some sN):=c8;have HP:=AC (show AE W1.drew kb 110 (row.set 7 (iV N))/\w.grownBy W1.drew (some kb) from ⟨G.heap rfl,⟨C.os,C.tape,C.output,C.size,C.block⟩⟩);have I:=AC F;rw [<-hN];clear h h7 h8 hN F G C c8;go_enter func109,ntmps109;go_wp2;rw [<-AB I];clear I c7 f7 E
 go_loopw [15] (λi wr=>wr=W1) (λ_ _=>0)
 case atStart=>exact rfl
 case round=>
  subst hrel
  go_upto_region 1 with fail
  refine Ak ?_;intro A hA;have e0:A.eval (.tmp 0)= qP kb 7:=eH hA;have J:A.tmps.size=39:=eZ hA;have HA:=AC hA;clear hA;refine xf (S:=λw'=>w'.cell? (xK kb 8)=some sN) kf H (λhS=> ?_);refine tq 0 9 rfl (yM (qP kb 7)) hS (tq 1 10 rfl (yN (xK kb 7)) hS (tq 2 11 rfl (yF (qP kb 7) (qP kb 8)) hS (tq 3 12 rfl (yl R1) hS (tq 4 13 rfl (Do rfl _ _ rfl sN sE (iV 0) (λw' _=>gS)) hS (tq 5 14 rfl (yB (iV 0) (iV 0) (.bool false) R2) hS ?_)))));refine tq 6 15 rfl (yM (.bool false)) hS (tq 7 16 rfl yO hS (tq 8 17 rfl yO hS (tq 9 18 rfl yO hS (tq 10 19 rfl yO hS (tq 11 20 rfl yO hS ?_)))));refine tq 12 21 rfl yO hS (tq 13 22 rfl yO hS (tq 14 23 rfl yO hS (tq 15 24 rfl yO hS ?_)))
  refine tq 16 25 rfl yO hS (tq 17 26 rfl yO hS (tq 18 27 rfl yO hS (tq 19 28 rfl yO hS (tq 20 29 rfl yO hS (tq 21 30 rfl (De rfl _ _ _ rfl false (.bool false) sE sE) hS ?_)))));refine vg kf ?_ _;rw [AB HA];simp only [Act.put,zl,zh,zi];clear hS HA e0 J A R1 R2 H;go_wp2;go_end0;exact ⟨rfl,HP.1,HP.2⟩
def kH (tk0 kb:Nat) (w:World) (hT:cE w tk0 0 (qP kb 0)) (h:cT 109 #[qP kb 7] w λe w'=>e= .returned (.tuple #[])/\R w'):cT 24 #[qP tk0 0] w λe w'=>e= .returned (.tuple #[])/\R w':=by
 have HK:=AC (show cT 54 #[qP kb 0] w λe w'=>e= .returned (.tuple #[])/\R w' from by
  have H:=AC h;clear h hT;go_enter func54,ntmps54
  go_wp2_with fail
  refine H.mono ?_;rintro e w1 ⟨rfl,h1⟩;have HR:=AC h1;clear h1 H;go_wp2;go_end0
  exact ⟨rfl,AB HR⟩)
 clear h;go_enter func24,ntmps24
 go_wp2_with fail
 refine HK.mono ?_;rintro e w1 ⟨rfl,h1⟩;have HR:=AC h1;clear h1 HK;go_wp2;go_end0;exact ⟨rfl,AB HR⟩
def kI (tk0 kb cb:Nat) (x:Value) (w:World) (hT:cE w tk0 0 (qP kb 0)) (k6:cE w kb 6 (qP cb 0)) (h:cT 110 #[qP cb 0,x] w λe w'=>e= .returned (.tuple #[])/\R w'):cT 26 #[qP tk0 0,x] w λe w'=>e= .returned (.tuple #[])/\R w':=by
 have HK:=AC (show cT 55 #[qP kb 0,x] w λe w'=>e= .returned (.tuple #[])/\R w' from by
  have H:=AC h;clear h hT;go_enter func55,ntmps55
  go_wp2_with fail
  refine H.mono ?_;rintro e w1 ⟨rfl,h1⟩;have HR:=AC h1;clear h1 H;go_wp2;go_end0
  exact ⟨rfl,AB HR⟩)
 clear h;go_enter func26,ntmps26
 go_wp2_with fail
 refine HK.mono ?_;rintro e w1 ⟨rfl,h1⟩;have HR:=AC h1;clear h1 HK;go_wp2;go_end0;exact ⟨rfl,AB HR⟩
def X8 (tk0 kb cb:Nat) (w:World) (hT:cE w tk0 0 (qP kb 0)) (k6:cE w kb 6 (qP cb 0)) {R:Value->World->Prop} (h:cT 111 #[qP cb 0] w λe w'=>∃r,e= .returned r/\R r w'):cT 27 #[qP tk0 0] w λe w'=>∃r,e= .returned r/\R r w':=by
 have HK:=AC (show cT 56 #[qP kb 0] w λe w'=>∃r,e= .returned r/\R r w' from by
  have H:=AC h;clear h hT;go_enter func56,ntmps56
  go_wp2_with fail
  refine H.mono ?_;rintro e w1 ⟨r,rfl,h1⟩;have HR:=AC h1;clear h1 H;go_wp2;go_ret
  exact ⟨r,rfl,AB HR⟩)
 clear h;go_enter func27,ntmps27
 go_wp2_with fail
 refine HK.mono ?_;rintro e w1 ⟨r,rfl,h1⟩;have HR:=AC h1;clear h1 HK;go_wp2;go_ret;exact ⟨r,rfl,AB HR⟩
structure kJ (T:List Nat) (tb ab am:Nat) (NB MB:List Nat) (V:List Value):Prop where
 tb:tb∈T
 ab:ab∈T
 am:am∈T
 nb:∀b∈NB,b∈T
 mb:∀m∈MB,m∈T
 v:∀(i:Nat) (v:Value) (R:Nat),V[i]? =some v->AV v=some R->R∈T
def BS.keptIn {p:PK} (h:BS w B tb ab am p NB MB V oc0) (hT:kJ T tb ab am NB MB V) (hs:w.heap.size<=w'.heap.size) (hk:∀k∈T,w'.heap[k]? =w.heap[k]?):BS w' B tb ab am p NB MB V oc0:=by
 have hl:=h.tree.low;refine ⟨⟨AJ h.tree.tree (hk _ hT.tb),AJ h.tree.above (hk _ hT.ab),h.tree.amap.block (hk _ hT.am),h.tree.len,λi x b m hx hb hm=> ?_,h.tree.root,h.tree.vlen,h.tree.apart,hl.1,hl.2.1,hl.2.2.1,hl.2.2.2.1,λm hm=>⟨(hl.2.2.2.2 m hm).1,o1 (hl.2.2.2.2 m hm).2⟩⟩,λi v c hv hc=> ?_,h.own⟩
 ·obtain ⟨qn,v,mv,h1,h2,h3⟩:=h.tree.node i x b m hx hb hm;refine ⟨qn,v,mv,AJ h1 (hk _ (hT.nb b (zv hb))),λhd=>⟨(h2 hd).1,(h2 hd).2.block (hk _ (hT.mb m (zv hm)))⟩,h3⟩
 ·exact (h.cont i v c hv hc).block (λR hR _ _=>hk R (hT.v i v R hv hR))
def kK (P:PK) (tb cb pm:Nat) (now:Int):List Value:=[iV P.lp,iV P.lf,iV P.lo,iV P.li,iV P.lb,qP tb 0,qP cb 0,iV now,sN,.map (some pm)]
structure KXR (w:World) (T M:List Nat) (P:PK) (ks:List AP) (typed:List Int) (m:Nat) (tk0 kb tb ab am cb pm n B:Nat) (NB MB:List Nat) (V:List Value) (mm now:Int) (vt vw:Value) (PL:List (Int×Nat)) (D:Nat->PD):Prop where
 tk:AE w tk0 60 [qP kb 0]
 ker:AE w kb 110 (kK P tb cb pm now)
 tree:BS w B tb ab am P NB MB V oc0
 tin:kJ T tb ab am NB MB V
 con:IF w B cb vt vw typed []
 xc:XC w kb pm n cb PL D ks
 nm:n<=m
 pk:jo P
 err:Ge w
 hdr:w.rangeAt 1 0 DK
 mx:w.cell? (xK 3 0)=some (iV mm)
 tT:tk0∈T/\0∈T/\1∈T/\3∈T
 mM:kb∈M/\cb∈M/\pm∈M/\(∀y∈PL,y.2∈M)/\∀R,AV vt=some R\/AV vw=some R->R∈M
 apart:∀b∈T,b∉M
 tl:∀b∈T,b<w.heap.size
 ml:∀b∈M,b<w.heap.size
 cbn:cb≠kb/\cb≠pm/\(∀y∈PL,y.2≠cb)/\∀R,AV vt=some R\/AV vw=some R->R≠kb/\R≠pm/\R≠cb/\∀y∈PL,y.2≠R
def KX (w:World) (T M:List Nat) (kp:Addr) (P:PK) (ks:List AP) (typed:List Int) (m:Nat):Prop:=∃tk0 kb tb ab am cb pm n B NB MB V mm now vt vw PL D,kp=(xK tk0 0)/\KXR w T M P ks typed m tk0 kb tb ab am cb pm n B NB MB V mm now vt vw PL D
def Cn {o:Nat} (h:w'.heap[b]? =w.heap[b]?):w'.cell? (xK b o)=w.cell? (xK b o):=by unfold World.cell?;rw [h]
def AZ.block (h:AZ w pm n PL) (hh:w'.heap[pm]? =w.heap[pm]?):AZ w' pm n PL:=by
 obtain ⟨h1,h2,h3,D,⟨es,C,hb,hr⟩,h4⟩:=h;exact ⟨h1,h2,h3,D,⟨es,C,by rw [hh];exact hb,hr⟩,h4⟩
def XC.block (h:XC w kb pm n cb PL D ks) (hs:w.heap.size<=w'.heap.size) (hk:w'.heap[kb]? =w.heap[kb]?) (hp:w'.heap[pm]? =w.heap[pm]?) (hy:∀y∈PL,w'.heap[y.2]? =w.heap[y.2]?):XC w' kb pm n cb PL D ks:=
 ⟨⟨by rw [Cn hk];exact h.xk.k9,by rw [Cn hk];exact h.xk.k6,yz h.xk.kl hs,h.xk.map.block hp,λx hx=>⟨AJ (h.xk.each x hx).1 (hy x hx),(h.xk.each x hx).2⟩,h.xk.apart,h.xk.one,h.xk.kpm⟩,h.canon,h.aps⟩
def KX.stable (h:KX w T M kp P ks typed m) (hs:w.heap.size<=w'.heap.size) (hT:∀b∈T,w'.heap[b]? =w.heap[b]?) (hM:∀b∈M,w'.heap[b]? =w.heap[b]?):KX w' T M kp P ks typed m:=by
 obtain ⟨tk0,kb,tb,ab,am,cb,pm,n,B,NB,MB,V,mm,now,vt,vw,PL,D,hp,h⟩:=h;refine ⟨tk0,kb,tb,ab,am,cb,pm,n,B,NB,MB,V,mm,now,vt,vw,PL,D,hp,⟨AJ h.tk (hT _ h.tT.1),AJ h.ker (hM _ h.mM.1),h.tree.keptIn h.tin hs hT,h.tin,h.con.block (hM _ h.mM.2.1) (λR hR=>hM R (h.mM.2.2.2.2 R hR)),h.xc.block hs (hM _ h.mM.1) (hM _ h.mM.2.2.1) (λy hy=>hM _ (h.mM.2.2.2.1 y hy)),h.nm,h.pk,?_,λj v hj=> ?_,?_,h.tT,h.mM,h.apart,λb hb=>yz (h.tl b hb) hs,λb hb=>yz (h.ml b hb) hs,h.cbn⟩⟩
 ·have:=h.err;unfold Ge at this ⊢;rw [Cn (hT _ h.tT.2.1)];exact this
 ·rw [Cn (hT _ h.tT.2.2.1)];exact h.hdr j v hj
 ·rw [Cn (hT _ h.tT.2.2.2)];exact h.mx
def KX.below (h:KX w T M kp P ks typed m) (hb:Bw w w'):KX w' T M kp P ks typed m:=by
 have h0:=h;obtain ⟨_,_,_,_,_,_,_,_,_,_,_,_,_,_,_,_,_,_,_,h⟩:=h;exact h0.stable hb.size (λb hB=>hb.block b (h.tl b hB)) (λb hB=>hb.block b (h.ml b hB))
section
def KXR.xe (h:KXR w T M P ks typed m tk0 kb tb ab am cb pm n B NB MB V mm now vt vw PL D):XE w B kb tb ab am P NB MB V mm:=
 ⟨h.ker.cell rfl,h.ker.cell rfl,h.ker.cell rfl,h.tree,h.pk.inv,h.pk.bytes,⟨o1 h.pk.used,o1 h.pk.used⟩,h.pk.li,h.pk.lb,h.pk.lf,h.pk.lp,h.hdr,h.tl _ h.tT.2.2.1,h.mx,h.tl _ h.tT.2.2.2⟩
end
def aL (w:World) (T M:List Nat) (kp:Addr) (P:PK) (ks:List AP) (typed:List Int) (m:Nat) (w':World):Prop:=∃M',KX w' T M' kp P ks typed m/\(∀b∈M',b∈M\/w.heap.size<=b)/\At M w w'
def pH (w:World) (T M:List Nat) (kp:Addr) (P:PK) (ks:List AP) (typed:List Int) (m:Nat) (w':World):Prop:=∃M',KX w' T M' kp P ks typed m/\(∀b∈M',b∈M\/w.heap.size<=b/\∀vs,¬AE w' b 5 vs)/\At M w w'
def pI (w:World) (P:PK) (ks:List AP) (pid:Int) (k:Dr) (a b:Int) (d v:Value) (w':World) (o:DoO):Prop:=
 DoR P ks pid k o/\((o.c=0/\v= .nilIface/\a=o.n/\b=o.m/\It w.heap.size w' d o.out)\/(o.c≠0/\a=0/\b=0/\d= sN/\∃q,v=IE q/\w.heap.size<=q/\w'.cell? (xK q 1)=some (iV o.c)))
def pJ (h:KX w T M kp P ks typed m) (hK:KOk P ks) (hm:m<=10000) (hA:IW w k la q so bb dc M) (hk:GM k.kind) (J: -9223372036854775808<=pid/\pid<=9223372036854775807):
  cT 46 #[.pointer (some kp),iV pid,.agg #[iV k.kind,iV k.a,iV k.b,.string k.s,.slice la k.ss.length lc,sL bb 0 k.B.length dc]] w λe w'=>∃a b d v,e= .returned (.tuple #[Br a b d,v])/\∃o,pI w P ks pid k a b d v w' o/\pH w T M kp P o.ks typed (m+1) w':=by
 obtain ⟨tk0,kb,tb,ab,am,cb,pm,n,B,NB,MB,V,mm,now,vt,vw,PL,D,rfl,h⟩:=h
 have E:∀l∈pm::PL.map (·.2),l∈M:=λl hl=>by
  rcases vp.1 hl with rfl|hl
  ·exact h.mM.2.2.1
  ·obtain ⟨y,hy,rfl⟩:=yt.1 hl;exact h.mM.2.2.2.1 y hy
 have X:IW w k la q so bb dc (PL.map (·.2)):=⟨hA.la,hA.ql,hA.strs,hA.sn,hA.ssz,hA.bs,hA.bl,λhb=>hA.bq (E _ (ut _ hb)),hA.dc⟩;refine (mV (tk0:=tk0) (Q:=PL.map (·.2)) (lc:=lc) h.xe h.xc hK (λy hy=>ui hy) (λl hl=>⟨h.ml l (E l hl),λe=>h.apart l (by rw [e];exact h.tT.2.1) (E l hl),λe=>h.apart l (show l∈T by rw [e];exact h.tT.1) (E l hl)⟩) X (o1 h.nm) hk J h.err (h.tl _ h.tT.2.1) (h.tk.cell rfl)).mono ?_;rintro e w' ⟨a,b,d,v,rfl,hd,ho⟩;have F:∀b,b∈T->b∉pm::PL.map (·.2):=λb hb hm=>h.apart b hb (E b hm)
 have U:kb∉pm::PL.map (·.2):=λhm=>by
  rcases vp.1 hm with e|hm
  ·exact h.xc.xk.kpm e
  ·obtain ⟨y,hy,e⟩:=yt.1 hm;exact (h.xc.xk.apart y hy).1 e
 have O:cb∉pm::PL.map (·.2):=λhm=>by
  rcases vp.1 hm with e|hm
  ·exact h.cbn.2.1 e
  ·obtain ⟨y,hy,e⟩:=yt.1 hm;exact h.cbn.2.2.1 y hy e
 have C:∀(N:List AP),(∃n' H D',n'<=n+1/\XC w' kb pm n' cb H D' N/\∀y∈H,y.2∈PL.map (·.2)\/w.heap.size+2<=y.2)->pH w T M (xK tk0 0) P N typed (m+1) w':=λN hx=>by
  obtain ⟨n',H,D',Y,L,I⟩:=hx;have G:∀b∈T,w'.heap[b]? =w.heap[b]? :=λb hb=>ho.block b (h.tl b hb) (F b hb);refine ⟨M++H.map (·.2),⟨tk0,kb,tb,ab,am,cb,pm,n',B,NB,MB,V,mm,now,vt,vw,H,D',rfl,⟨AJ h.tk (G _ h.tT.1),ho.holds h.ker U,h.tree.keptIn h.tin ho.size G,h.tin,h.con.block (ho.block _ (h.ml _ h.mM.2.1) O) (λR hR=> ?_),L,o1 h.nm,h.pk,?_,λj v hj=> ?_,?_,h.tT,⟨yn _ h.mM.1,yn _ h.mM.2.1,yn _ h.mM.2.2.1,λy hy=>ry _ (ui hy),λR hR=>yn _ (h.mM.2.2.2.2 R hR)⟩,λb hb hm=> ?_,λb hb=>yz (h.tl b hb) ho.size,λb hb=> ?_,h.cbn.1,h.cbn.2.1,λy hy e=> ?_,λR hR=>⟨(h.cbn.2.2.2 R hR).1,(h.cbn.2.2.2 R hR).2.1,(h.cbn.2.2.2 R hR).2.2.1,λy hy e=> ?_⟩⟩⟩,λb hb=> ?_,ho.mono E⟩
  ·refine ho.block R (h.ml _ (h.mM.2.2.2.2 R hR)) (λhm=> ?_);rcases vp.1 hm with e|hm
   ·exact (h.cbn.2.2.2 R hR).2.1 e
   ·obtain ⟨y,hy,e⟩:=yt.1 hm;exact (h.cbn.2.2.2 R hR).2.2.2 y hy e
  ·have:=h.err;unfold Ge at this ⊢;rw [Cn (G _ h.tT.2.1)];exact this
  ·rw [Cn (G _ h.tT.2.2.1)];exact h.hdr j v hj
  ·rw [Cn (G _ h.tT.2.2.2)];exact h.mx
  ·rcases vo.1 hm with hm|hm
   ·exact h.apart b hb hm
   ·obtain ⟨y,hy,e⟩:=yt.1 hm;rcases I y hy with q|q
    ·exact h.apart b hb (E b (ut _ (e▸q)))
    ·have:=h.tl b hb;omega
  ·rcases vo.1 hb with hm|hm
   ·exact yz (h.ml b hm) ho.size
   ·obtain ⟨y,hy,rfl⟩:=yt.1 hm;exact (L.xk.each y hy).1.lt
  ·rcases I y hy with q|q
   ·obtain ⟨z,hz,e2⟩:=yt.1 q;exact h.cbn.2.2.1 z hz (e2.trans e)
   ·have:=h.ml _ h.mM.2.1;omega
  ·rcases I y hy with q|q
   ·obtain ⟨z,hz,e2⟩:=yt.1 q;exact (h.cbn.2.2.2 R hR).2.2.2 z hz (e2.trans e)
   ·have:=h.ml _ (h.mM.2.2.2.2 R hR);omega
  ·rcases vo.1 hb with hm|hm
   ·exact .inl hm
   ·obtain ⟨y,hy,rfl⟩:=yt.1 hm;rcases I y hy with q|q
    ·exact .inl (E _ (ut _ q))
    ·exact .inr ⟨om,λvs hv=>Ab hv (L.xk.each y hy).1 dz rfl⟩
 rcases hd with ⟨c,q',a',b',d',h1,h2,h3,h4,h5,h6,h7,o,g1,g2,g3,g4,g5,g6⟩|⟨h1,o,g1,g2,g3,g4,g5,g6⟩
 ·refine ⟨a,b,d,v,rfl,o,⟨g1,.inr ⟨by rw [<-g4];exact h1,h2,h3,h4,q',h5,om,by rw [<-g4];exact h7⟩⟩,C o.ks g6⟩
 ·exact ⟨a,b,d,v,rfl,o,⟨g1,.inl ⟨g4.symm,h1,g2,g3,g5.mono om⟩⟩,C o.ks g6⟩
section
def mX (h:KX w T M kp P ks typed m):cT 24 #[.pointer (some kp)] w λe w'=>e= .returned (.tuple #[])/\KX w' T M kp P ks typed m/\At M w w':=by
 obtain ⟨tk0,kb,tb,ab,am,cb,pm,n,B,NB,MB,V,mm,now,vt,vw,PL,D,rfl,h⟩:=h;refine (kH tk0 kb w (h.tk.cell rfl) (kG kb now _ w h.ker rfl rfl)).mono ?_;rintro e w' ⟨rfl,hk,hg⟩;have ho:At M w w':=At.of_grown hg h.mM.1;have C:∀b∈T,w'.heap[b]? =w.heap[b]? :=λb hb=>ho.block b (h.tl b hb) (h.apart b hb);have F:∀b,b<w.heap.size->b≠kb->w'.heap[b]? =w.heap[b]? :=λb hb hn=>hg.block b hb (sU hn);have hx:=h.xc.xk
 refine ⟨rfl,⟨tk0,kb,tb,ab,am,cb,pm,n,B,NB,MB,V,mm,aK now,vt,vw,PL,D,rfl,⟨AJ h.tk (C _ h.tT.1),hk,h.tree.keptIn h.tin hg.size C,h.tin,h.con.block (F _ (h.ml _ h.mM.2.1) h.cbn.1) (λR hR=>F _ (h.ml _ (h.mM.2.2.2.2 R hR)) (h.cbn.2.2.2 R hR).1),⟨⟨hk.cell rfl,hk.cell rfl,hk.lt,hx.map.kept hg (by simpa using λe=>hx.kpm e.symm),λx E=>⟨(hx.each x E).1.grown hg (sU (hx.apart x E).1),(hx.each x E).2⟩,hx.apart,hx.one,hx.kpm⟩,h.xc.canon,h.xc.aps⟩,h.nm,h.pk,?_,λj v hj=> ?_,?_,h.tT,h.mM,h.apart,λb hb=>yz (h.tl b hb) hg.size,λb hb=>yz (h.ml b hb) hg.size,h.cbn⟩⟩,ho⟩
 ·have:=h.err;unfold Ge at this ⊢;rw [Cn (C _ h.tT.2.1)];exact this
 ·rw [Cn (C _ h.tT.2.2.1)];exact h.hdr j v hj
 ·rw [Cn (C _ h.tT.2.2.2)];exact h.mx
def kQ {C:List Int} (h:KXR w T M P ks typed m tk0 kb tb ab am cb pm n B NB MB V mm now vt vw PL D) (hc:Rl B cb vt vw C [] w w'):aL w T M (xK tk0 0) P ks C m w':=by
 obtain ⟨H,F,I,hf,hn⟩:=hc;have E:∀b,b<w.heap.size->b≠cb->¬(AV vt=some b\/AV vw=some b)->w'.heap[b]? =w.heap[b]? :=λb hb h1 h2=>hf.block b hb h1 (λe=>h2 (.inl e)) (λe=>h2 (.inr e));have ho:At M w w':=⟨hf.os,hf.tape,hf.output,hf.size,λb hb hm=>E b hb (λe=>hm (e▸h.mM.2.1)) (λe=>hm (h.mM.2.2.2.2 b e))⟩;have G:∀b∈T,w'.heap[b]? =w.heap[b]? :=λb hb=>ho.block b (h.tl b hb) (h.apart b hb);have hl:=h.ml
 have hR:∀R,AV H=some R\/AV F=some R->R<w'.heap.size:=λR hR=>by
  rcases hR with q|q
  ·exact (I.typed.lt q).1
  ·exact (I.out.lt q).1
 refine ⟨M++((AV H).toList++(AV F).toList),⟨tk0,kb,tb,ab,am,cb,pm,n,B,NB,MB,V,mm,now,H,F,PL,D,rfl,⟨AJ h.tk (G _ h.tT.1),AJ h.ker (E _ (hl _ h.mM.1) (λe=>h.cbn.1 e.symm) (λe=>(h.cbn.2.2.2 _ e).1 rfl)),h.tree.keptIn h.tin hf.size G,h.tin,I,h.xc.block hf.size (E _ (hl _ h.mM.1) (λe=>h.cbn.1 e.symm) (λe=>(h.cbn.2.2.2 _ e).1 rfl)) (E _ (hl _ h.mM.2.2.1) (λe=>h.cbn.2.1 e.symm) (λe=>(h.cbn.2.2.2 _ e).2.1 rfl)) (λy hy=>E _ (hl _ (h.mM.2.2.2.1 y hy)) (h.cbn.2.2.1 y hy) (λe=>(h.cbn.2.2.2 _ e).2.2.2 y hy rfl)),h.nm,h.pk,?_,λj v hj=> ?_,?_,h.tT,⟨yn _ h.mM.1,yn _ h.mM.2.1,yn _ h.mM.2.2.1,λy hy=>yn _ (h.mM.2.2.2.1 y hy),λR hR=>ry _ ?_⟩,λb hb hm=> ?_,λb hb=>yz (h.tl b hb) hf.size,λb hb=> ?_,h.cbn.1,h.cbn.2.1,h.cbn.2.2.1,λR hR=> ?_⟩⟩,λb hb=> ?_,ho⟩
 ·have:=h.err;unfold Ge at this ⊢;rw [Cn (G _ h.tT.2.1)];exact this
 ·rw [Cn (G _ h.tT.2.2.1)];exact h.hdr j v hj
 ·rw [Cn (G _ h.tT.2.2.2)];exact h.mx
 ·rcases hR with q|q
  ·exact yn _ (by rw [q];simp)
  ·exact ry _ (by rw [q];simp)
 ·rcases vo.1 hm with hm|hm
  ·exact h.apart b hb hm
  ·have J:AV H=some b\/AV F=some b:=by
    rcases vo.1 hm with q|q
    ·exact .inl (sU q)
    ·exact .inr (sU q)
   rcases hn b J with q|q|q
   ·exact h.apart b hb (h.mM.2.2.2.2 b (.inl q))
   ·exact h.apart b hb (h.mM.2.2.2.2 b (.inr q))
   ·have:=h.tl b hb;omega
 ·rcases vo.1 hb with hm|hm
  ·exact yz (h.ml b hm) hf.size
  ·rcases vo.1 hm with q|q
   ·exact hR b (.inl (sU q))
   ·exact hR b (.inr (sU q))
 ·rcases hn R hR with q|q|q
  ·exact h.cbn.2.2.2 R (.inl q)
  ·exact h.cbn.2.2.2 R (.inr q)
  ·refine ⟨λe=> ?_,λe=> ?_,λe=> ?_,λy hy e=> ?_⟩
   ·have:=hl _ h.mM.1;omega
   ·have:=hl _ h.mM.2.2.1;omega
   ·have:=hl _ h.mM.2.1;omega
   ·have:=hl _ (h.mM.2.2.2.1 y hy);omega
 ·rcases vo.1 hb with hm|hm
  ·exact .inl hm
  ·have J:AV H=some b\/AV F=some b:=by
    rcases vo.1 hm with q|q
    ·exact .inl (sU q)
    ·exact .inr (sU q)
   rcases hn b J with q|q|q
   ·exact .inl (h.mM.2.2.2.2 b (.inl q))
   ·exact .inl (h.mM.2.2.2.2 b (.inr q))
   ·exact .inr q
def cF (h:KXR w T M P ks typed m tk0 kb tb ab am cb pm n B NB MB V mm now vt vw PL D):B<=w.heap.size:=by
 have:=h.con.low;have:=h.con.row.lt;omega
def mY (h:KX w T M kp P ks typed m) {x:Value} {N:List Int} (hx:Td w x N) (hl:typed.length+N.length<=10000000):cT 26 #[.pointer (some kp),x] w λe w'=>e= .returned (.tuple #[])/\aL w T M kp P ks (typed++N) m w':=by
 obtain ⟨tk0,kb,tb,ab,am,cb,pm,n,B,NB,MB,V,mm,now,vt,vw,PL,D,rfl,h⟩:=h;refine (kI tk0 kb cb x w (h.tk.cell rfl) (h.ker.cell rfl) (X6 B cb vt vw x typed [] N w h.con hx (cF h) hl)).mono ?_;rintro e w' ⟨rfl,hc⟩;exact ⟨rfl,kQ h hc⟩
def aV (h:KX w T M kp P ks typed m):cT 27 #[.pointer (some kp)] w λe w'=>∃r,e= .returned r/\M4 w w' r []/\aL w T M kp P ks typed m w':=by
 obtain ⟨tk0,kb,tb,ab,am,cb,pm,n,B,NB,MB,V,mm,now,vt,vw,PL,D,rfl,h⟩:=h;refine (X8 tk0 kb cb w (h.tk.cell rfl) (h.ker.cell rfl) (R:=λr w'=>M4 w w' r []/\Rl B cb vt vw typed [] w w') ((X7 B cb vt vw typed [] w h.con sI (cF h)).mono ?_)).mono ?_
 ·rintro e w' ⟨r,h1,h2,h3⟩;exact ⟨r,h1,h2,h3⟩
 ·rintro e w' ⟨r,rfl,h1,h2⟩;exact ⟨r,rfl,h1,kQ h h2⟩
def Tg (h:XC w kb pm n cb PL D ks) (hK:KOk P ks) (hx:x∈PL):jP w x.2 (D x.2)/\pF (D x.2):=by
 obtain ⟨h1,h2,h3⟩:=h.xk.each x hx;have ho:=hK.each _ (h.mem hx).1;have hc:=h.canon x hx;have C:(D x.2).xs=fY (D x.2).p cb:=congrArg PD.xs hc;have hm:(D x.2).m=if (D x.2).p.st=0 then 3 else 0:=congrArg PD.m hc
 have hF:(D x.2).FR=if (D x.2).p.st=0 then GS 3 else []:=congrArg PD.FR hc
 rcases ho.st with ⟨s1,s2,s3⟩|⟨s1,s2,s3,s4⟩
 ·have e1:(D x.2).xs=FJ cb 3:=by rw [C];unfold fY;rw [vu s1]
  have e2:(D x.2).m=3:=by rw [hm,vu s1]
  have e3:(D x.2).FR=GS 3:=by rw [hF,vu s1]
  refine ⟨⟨h1,h2.regs,h2.pages,by rw [s1];decide,λw' hr=> ?_⟩,ho.le,λq hq=>(ho.pages.each q hq).2.2.2.2,.inl ⟨s3,e2,e3⟩⟩;rw [e2,e3];rw [e1] at hr;exact Wm x.2 cb w' hr
 ·have hz:¬(D x.2).p.st=0:=by rw [s1];decide
  have e1:(D x.2).xs=GA:=by rw [C];unfold fY;rw [vz hz]
  have e2:(D x.2).m=0:=by rw [hm,vz hz]
  have e3:(D x.2).FR=[]:=by rw [hF,vz hz]
  refine ⟨⟨h1,h2.regs,h2.pages,by rw [s1];decide,λw' hr=> ?_⟩,ho.le,λq hq=>(ho.pages.each q hq).2.2.2.2,.inr ⟨s3,e2,e3⟩⟩;rw [e2,e3];rw [e1] at hr;exact YH x.2 w' hr
def kS (h:KX w T M kp P ks typed m) (hK:KOk P ks):cT 57 #[.pointer (some kp)] w (Ni w [] ks):=by
 obtain ⟨tk0,kb,tb,ab,am,cb,pm,n,B,NB,MB,V,mm,now,vt,vw,PL,D,rfl,h⟩:=h;have G:=h.xc.len
 have C:0<PL.length:=by
  obtain ⟨p,hp,_⟩:=hK.one;have:=rl hp;omega
 have E:=hK.cnt;have H:=h.pk.lp;have F:ks=(PL.map (λx=>D x.2)).map (·.p):=by rw [h.xc.aps];unfold LK;rw [rx];rfl
 refine fW (h.tk.cell rfl) (λe w' h=>by obtain ⟨_,_,_,_,h,_⟩:=h;exact ⟨_,h⟩) ((XJ kb pm n PL (PL.map (λx=>D x.2)) w (h.ker.cell rfl) h.ker.lt h.xc.xk.map C om (zc _) (λj x d hx hd=> ?_)).mono λe w' hp=> ?_)
 ·rw [ze,hx] at hd;obtain rfl:=zr hd;exact (Tg h.xc hK (zv hx)).1
 ·rw [F];refine fX hp (zc _) C (λd hd=> ?_);obtain ⟨x,hx,rfl⟩:=yt.1 hd;exact (Tg h.xc hK hx).2
def kT (h:KX w T M kp P ks typed m):∃FL,cT 59 #[.pointer (some kp)] w (DW w FL)/\WU P.xs P.cs FL/\∀f∈FL,f.bytes.length<=1000000:=by
 obtain ⟨tk0,kb,tb,ab,am,cb,pm,n,B,NB,MB,V,mm,now,vt,vw,PL,D,rfl,h⟩:=h;have E:P.xs≠[]:=by obtain ⟨x,hx,_⟩:=h.pk.inv.root;intro e;rw [e] at hx;cases hx
 obtain ⟨x0,h0,F,_⟩:=h.tree.tree.root E;have C:∀c∈P.cs,c.length<=1000000:=λc hc=>o2 (gE hc) h.pk.used.1;refine ⟨FL0 P,gD tk0 kb tb (FL0 P) w (h.tk.cell rfl) (h.ker.cell rfl) (Sk P h.pk.inv B tb ab am NB MB V (o1 h.pk.used.2) C w h.tree),gA h.pk.inv h0 F,λf hf=> ?_⟩;obtain ⟨j,_,rfl⟩:=yt.1 hf;unfold CC;split
 ·show (P.cs.getD j []).length<=1000000;rw [zk]
  cases hc:P.cs[j]? with
  |none=>simp
  |some c=>exact C c (zv hc)
 ·simp
def mZ (h:KX w T M kp P ks typed m) (hK:KOk P ks):cT 61 #[.pointer (some kp)] w λe w2=>e= .returned (.agg (BK ((ks.map (λz=>z.PS.length)).length:Nat) ((ks.map (λz=>z.PS.length)).sum:Nat) 0 P.xs.length (AM P.cs)).toArray)/\Bw w w2:=by
 obtain ⟨tk0,kb,tb,ab,am,cb,pm,n,B,NB,MB,V,mm,now,vt,vw,PL,D,rfl,h⟩:=h;have F:=hK.frames;have G:=h.pk.lf;have hf:Cc ks=(PL.map (lenOf D)).sum:=h.xc.frames;have E:(ks.map (λz=>z.PS.length)).length=PL.length/\(ks.map (λz=>z.PS.length)).sum=(PL.map (lenOf D)).sum:=⟨by rw [zc,h.xc.len],hf⟩;rw [E.1,E.2];refine kN tk0 kb _ _ _ _ w (h.tk.cell rfl) h.tk.lt (λW hb=> ?_);have hx:=h.xc.xk.below hb;exact ZY kb pm n cb tb ab P.li P.lb (P.xs.length:Nat) (AM P.cs:Nat) (kK P tb cb pm now) PL (lenOf D) (λx=>(D x.2).xs) W (h.ker.below hb h.ker.lt) rfl rfl rfl hx.map hx.pagesOf om (λx C=>⟨(hx.each x C).2.1.fds,hx.fdsAt C⟩) (h.tree.tree.tree.below hb h.tree.tree.tree.lt)
end
def kU (h:Ei w pm pb):AZ w pm 1 [(1,pb)]:=by
 refine ⟨zx _,sI,λx hx=> ?_,Mf pb,h,λk=> ?_,λkl hk=> ?_⟩
 ·obtain rfl:x=(1,pb):=sU hx;exact ⟨by show (-1000000:Int)<=1;decide,by show (1:Int)<=1000000;decide⟩
 ·unfold Mf Bg;by_cases e:k=1
  ·subst e;rfl
  ·have e1:((1:Int)==k)=false:=by simpa using λe'=>e e'.symm
   have e2:(Lit.int .i64 1).sameKey (Lit.int .i64 k)=false:=by
    simp [Lit.sameKey];exact λe'=>e e'.symm
   simp [e1,DataW.atKey,e2,DT]
 ·exact ⟨(1,pb),sI,TM hk⟩
def kV (C:P.ExecOk [0] 0 Aj [BI]) (hB:AK (P.fileOf Aj)):AOk (BA P):=by
 have hc:=Xq C hB;exact ⟨Tf P,YC C,λq hq=>(hc.pages q hq).2,hc.pc,hc.regs,rfl,.inl ⟨rfl,rfl,rfl⟩,⟨by show (1:Int)<=1;decide,by show (1:Int)<=100000;decide⟩,⟨by show (0:Int)<=0;decide,by show (0:Int)<=100000;decide,by show (0:Int)≠1;decide,λ_=>rfl⟩,λ_=>by simp [BA,CS]⟩
def kW (C:P.ExecOk [0] 0 Aj [BI]) (hB:AK (P.fileOf Aj)) (E:1<=P.lp):KOk P [BA P]:=by
 refine ⟨λp hp=> ?_,sI,⟨_,qh.2 rfl,rfl⟩,by simpa using E,?_⟩
 ·obtain rfl:p=BA P:=sU hp;exact kV C hB
 ·have h6:=C.2.2.2.2.2;have e:Cc [BA P]=(Ad (P.fileOf Aj)).length+2:=by simp [Cc,BA,CS]
  rw [e];simp at h6;omega
def Sl {t:TypeId} {vs:List Value} (h:Ei w pm pb) (hp:AE w b t vs):b≠pm:=by
 rintro rfl;obtain ⟨es,C,hb,_⟩:=h;unfold AE at hp;rw [hb] at hp;cases hp
def pK {N:Nat} (h:KR w B kp P) (a4:P.ExecOk [0] 0 Aj [BI]) (hN:N<=B) (a9:0<N) (a8:1<N) (a6:3<N) (J:Ge w) (a1:w.rangeAt 1 0 DK) (a0:cE w 3 0 (iV mm)):
  ∃T M,KX w T M kp P [BA P] [] 1/\(∀b∈M,N<=b)/\(∀b∈T,b<w.heap.size)/\(∀b∈M,b<w.heap.size)/\∀b∈M,∀vs,¬AE w b 5 vs:=by
 obtain ⟨tk,kb,tb,ab,am,cb,pm,pb,NB,MB,V,rfl,h2,h3,h4⟩:=h;obtain ⟨o1,o2,o3,o4,o5⟩:=h4.ord;have I:=h4.low;have F:=h4.tree.tree;have Y:∀m∈MB,m<w.heap.size:=λm hm=>(F.low.2.2.2.2 m hm).2;have a2:=h4.ker.lt
 have G:∀b∈NB,∃vs,AE w b 257 vs:=λb hb=>by
  obtain ⟨i,hi⟩:=yj.1 hb;have X:=(zy.1 hi).1;obtain ⟨l1,l2⟩:=F.len;obtain ⟨qn,v,mv,q1,_⟩:=F.node i P.xs[i] b MB[i] (zz om) hi (zz om);exact ⟨_,q1⟩
 have a3:∀(i:Nat) (v:Value) (R:Nat),V[i]? =some v->AV v=some R->∃vs,AE w R 5 vs:=λi v R hv hR=>by
  have X:=(zy.1 hv).1;have a5:i<P.cs.length:=by rw [h4.inv.len,<-F.vlen];exact X
  rcases h4.tree.cont i v _ hv (zz a5) with ⟨q1,_⟩|⟨R',cp,T,q1,q2,q3,q4,q5⟩
  ·rw [q1] at hR;cases hR
  ·rw [q1] at hR;obtain rfl:R'=R:=by simpa [AV] using hR
   exact ⟨_,q2⟩
 obtain ⟨T,hT⟩:=xE ([tk,tb,ab,am,0,1,3]++(NB++(MB++V.filterMap AV)))
 have E:∀b,b∈T↔(b=tk\/b=tb\/b=ab\/b=am\/b=0\/b=1\/b=3)\/b∈NB\/b∈MB\/∃v∈V,AV v=some b:=λb=>by
  rw [hT];simp only [vo,vp,uu,or_false,List.mem_filterMap]
 have H:∀b,b∈[kb,cb,pm,pb]↔b=kb\/b=cb\/b=pm\/b=pb:=λb=>sI
 have U:∀b,(∃v∈V,AV v=some b)->∃vs,AE w b 5 vs:=λb ⟨v,hv,e⟩=>by
  obtain ⟨i,hi⟩:=yj.1 hv;exact a3 i v b hi e
 have C:∀(b:Nat) (t:TypeId) (vs:List Value),AE w b t vs->t≠110->t≠101->t≠193->¬(b=kb\/b=cb\/b=pm\/b=pb):=λb t vs hh n1 n2 n3 hb=>by
  rcases hb with rfl|rfl|rfl|rfl
  ·exact Ab hh h4.ker n1 rfl
  ·exact Ab hh h4.con n2 rfl
  ·exact Sl h4.procs hh rfl
  ·exact Ab hh h4.proc n3 rfl
 have Z:∀b∈T,b∉[kb,cb,pm,pb]:=λb hb=>by
  rw [H];rcases (E b).1 hb with (rfl|rfl|rfl|rfl|rfl|rfl|rfl)|q|q|q
  ·exact C _ _ _ h3 dz dz dz
  ·exact C _ _ _ F.tree dz dz dz
  ·exact C _ _ _ F.above dz dz dz
  ·omega
  ·omega
  ·omega
  ·omega
  ·obtain ⟨vs,q⟩:=G b q;exact C _ _ _ q dz dz dz
  ·have:=o2 b q;omega
  ·obtain ⟨vs,q⟩:=U b q;exact C _ _ _ q dz dz dz
 have L:∀b∈T,b<w.heap.size:=λb hb=>by
  rcases (E b).1 hb with (rfl|rfl|rfl|rfl|rfl|rfl|rfl)|q|q|q
  ·exact h3.lt
  ·exact F.tree.lt
  ·exact F.above.lt
  ·omega
  ·omega
  ·omega
  ·omega
  ·obtain ⟨vs,q⟩:=G b q;exact q.lt
  ·exact Y b q
  ·obtain ⟨vs,q⟩:=U b q;exact q.lt
 have O:∀b∈[kb,cb,pm,pb],b<w.heap.size:=λb hb=>by
  rcases (H b).1 hb with rfl|rfl|rfl|rfl<;>omega
 have a7:h4.proc.lt=h4.proc.lt:=rfl;refine ⟨T,[kb,cb,pm,pb],⟨tk,kb,tb,ab,am,cb,pm,1,B,NB,MB,V,mm,0,sN,sN,[(1,pb)],λ_=>Nq cb (BA P),rfl,⟨h3,h4.ker,h4.tree,⟨(E _).2 sI,(E _).2 sI,(E _).2 sI,λb hb=>(E _).2 (.inr (.inl hb)),λb hb=>(E _).2 (.inr (.inr (.inl hb))),λi v R hv hR=>(E _).2 (.inr (.inr (.inr ⟨v,zv hv,hR⟩)))⟩,⟨h4.con,.inl ⟨rfl,rfl⟩,.inl ⟨rfl,rfl⟩,λR e=>(by cases e),I.2.1⟩,⟨⟨h4.ker.cell rfl,h4.ker.cell rfl,a2,kU h4.procs,λx hx=> ?_,λx hx=> ?_,λx hx y hy e=> ?_,om⟩,λx hx=>rfl,rfl⟩,zx 1,h4.pk,J,a1,a0,⟨(E _).2 sI,(E _).2 sI,(E _).2 sI,(E _).2 sI⟩,⟨sI,sI,sI,λy hy=> ?_,λR e=> ?_⟩,Z,L,O,⟨om,om,λy hy=> ?_,λR e=> ?_⟩⟩⟩,λb hb=> ?_,L,O,λb hb vs hv=>C b _ vs hv dz dz dz ((H b).1 hb)⟩
 ·obtain rfl:x=(1,pb):=sU hx;refine ⟨h4.proc,⟨Tf P,YC a4,jA cb⟩,rfl⟩
 ·obtain rfl:x=(1,pb):=sU hx;exact ⟨by show pb≠kb;omega,by show pb≠pm;omega⟩
 ·obtain rfl:x=(1,pb):=sU hx;obtain rfl:y=(1,pb):=sU hy;rfl
 ·obtain rfl:y=(1,pb):=sU hy;simp
 ·rcases e with e|e<;>cases e
 ·obtain rfl:y=(1,pb):=sU hy;show pb≠cb;omega
 ·rcases e with e|e<;>cases e
 ·rcases (H b).1 hb with rfl|rfl|rfl|rfl<;>omega
def cL (k:Int):Bool:= !(k==1||k==2||k==3||k==4||k==17||k==18||k==19)
def mf {k:Int} (h:cL k=false):GM k:=by
 simp only [cL,Bool.not_eq_false',Bool.or_eq_true,beq_iff_eq] at h;unfold GM;omega
def oP (N:Nat) (lp lf lo li lb:Int) (fv:Value) (sa:Option Addr) (sb so sc:Nat) (OZ:List POp) (b:Bool) (I:Nat->Nat->World->Prop) (w:World) (g3:N<=w.heap.size) (hs:IG w N sa sb so OZ) (g5:b=true->OZ.length<=400) (g8:OZ.length<=140737488355328)
  (b5:∀W,Bw w W->cT 9 #[.agg #[iV lp,iV lf,iV lo,iV li,iV lb,fv],.slice sa OZ.length sc] W λe w'=>e= .returned (.bool b)/\Bw W w')
  (f1:b=true->∀W,Bw w W->cT 10 #[.agg #[iV lp,iV lf,iV lo,iV li,iV lb,fv]] W λe w'=>∃pv f,e= .returned (.tuple #[pv,iV f,.bool true])/\Bw W w'/\(f=0->∃wb,pv= qP wb 0/\I wb 0 w'))
  (g6:∀wb i w w',I wb i w->Bw w w'->I wb i w') (f8:∀wb i w,I wb i w->I wb (i+1) w) (f0:∀wb i W,I wb i W->W.cell? (xK wb 4)=some (.bool false)/\Below N w W)
  (f4:∀wb i W o,OZ[i]? =some o->o.kind≠1->(o.kind=0->GM o.ck)->Nv W N o->N<=W.heap.size->I wb i W->cT 12 #[qP wb 0,.agg o.cells.toArray] W λe w'=>e= .returned (.bool true)/\I wb (i+1) w'):
  cT 5 #[.agg #[iV lp,iV lf,iV lo,iV li,iV lb,fv],.slice sa OZ.length sc,iV 917534,iV 0] w λe w'=>e= .returned (.bool true)/\Below N w w':=by
 obtain ⟨n,hn⟩:=xE OZ.length;rw [<-hn] at b5 ⊢;obtain ⟨W1,a5⟩:=xE (w.alloc (Obj.cells #[iV lp,iV lf,iV lo,iV li,iV lb,fv] 26));have d8:Bw w W1:=by rw [a5];exact bA
 have G:AE W1 w.heap.size 26 [iV lp,iV lf,iV lo,iV li,iV lb,fv]:=by rw [a5];exact AE.new w 26 _
 obtain ⟨SB,d6⟩:=xE w.heap.size;rw [<-d6] at G;have c0:=G.cell (j:=0) rfl;have c1:=G.cell (j:=1) rfl;have c2:=G.cell (j:=2) rfl;have c3:=G.cell (j:=3) rfl;have c4:=G.cell (j:=4) rfl;have c5:=G.cell (j:=5) rfl;have d9:=AC (b5 W1 d8);obtain ⟨f9,a9,f6,g1⟩:=H4 a5 d8 G f1;have HA:=AC (xi g6 (xi f8 (xi f0 f4)));have h4:=AC hs;have b4:=AC g3;have a8:=AC (xi hn g5);clear a5 d8 G b5 f1 g6 f8 f0 f4 hs g3 hn g5 g8;go_enter func5,ntmps5
 go_upto_region 1 with fail
 rw [<-AB f9,<-d6];clear f9 d6
 go_wp2_with fail
 refine d9.mono ?_;rintro e w2 ⟨rfl,Z⟩;have b6:Hid (Below N w w2):=(a9.trans (Z.mono a9.size)).mono b4
 cases b with
 |false=>
  clear Z;go_wp2;go_ret
  exact ⟨rfl,AB b6⟩
 |true=>
  have O:=f6.below Z f6.lt;have f7:=a9.trans (Z.mono a9.size);have d0:=O.cell (j:=0) rfl;have d1:=O.cell (j:=1) rfl;have d2:=O.cell (j:=2) rfl;have d3:=O.cell (j:=3) rfl;have d4:=O.cell (j:=4) rfl;have d5:=O.cell (j:=5) rfl;have b8:=AC (AB g1 rfl w2 f7);have i1:n<=400:=o2 (a8.2 rfl) a8.1;clear O f7 Z d9 g1 c0 c1 c2 c3 c4 c5
  go_wp2_with fail
  refine b8.mono ?_;rintro e w3 ⟨pv,f,rfl,d7,b9⟩;have g9:Hid (Below N w w3):=b6.trans (d7.mono (zg b4 b6.size));by_cases hf:f=0
  ·obtain ⟨wb,rfl,hI⟩:=b9 hf;subst hf;have HI:=AC hI;clear d7 b9 hI b8 d0 d1 d2 d3 d4 d5;go_wp2
   go_loopw [12,13] (λh0 iv wr=>∃j:Nat,j<=n/\h0= .bool true/\iv= iV j/\Hid (I wb j wr)) (λ_ iv _=>n-(intOf iv).toNat)
   case atStart=>exact ⟨0,om,rfl,rfl,HI⟩
   case round=>
    obtain ⟨j,hj,rfl,rfl,f2⟩:=hrel;obtain ⟨l4,a3⟩:=HA.2.2.1 wb j wr f2;have g7:=AC a3;by_cases h8:j<n
    ·obtain ⟨o,ho⟩:∃o,OZ[j]? =some o:=⟨_,zz (o1 a8.1)⟩;have X:=zv ho;have C:=h4.below a3;obtain ⟨rfl,h3⟩:=C.at_ (o1 a8.1);obtain ⟨la,lq,h7,lc,b3,_,_⟩:=(C.each o X).strs;obtain ⟨ba,bq,i0,bc,a6,_,_⟩:=(C.each o X).bs;obtain ⟨ea,h5,i2,ec,b1,_,_⟩:=(C.each o X).es;obtain ⟨ol,f3⟩:=xE o.ss.length;obtain ⟨ob,f5⟩:=xE o.B.length;obtain ⟨oe,g0⟩:=xE o.E.length;obtain ⟨kd,a0⟩:=xE o.kind;obtain ⟨ck,a2⟩:=xE o.ck;rw [<-f3] at b3;rw [<-f5] at a6;rw [<-g0] at b1;have s0:wr.cell? (xK sb (so+j*10))=some (iV kd):=by rw [a0];exact C.cell j o ho 0 _ rfl
     have s1:cE wr sb (so+j*10+1) (iV o.a):=C.cell j o ho 1 _ rfl;have s2:cE wr sb (so+j*10+2) (iV o.b):=C.cell j o ho 2 _ rfl;have s3:wr.cell? (xK sb (so+j*10+3))=some (iV ck):=by rw [a2];exact C.cell j o ho 3 _ rfl
     have s4:cE wr sb (so+j*10+4) (iV o.ca):=C.cell j o ho 4 _ rfl;have s5:cE wr sb (so+j*10+5) (iV o.cb):=C.cell j o ho 5 _ rfl;have s6:cE wr sb (so+j*10+6) (.string o.s):=C.cell j o ho 6 _ rfl;have s7:wr.cell? (xK sb (so+j*10+7))=some (.slice la ol lc):=by rw [<-b3];exact C.cell j o ho 7 _ rfl
     have s8:wr.cell? (xK sb (so+j*10+8))=some (.slice ba ob bc):=by rw [<-a6];exact C.cell j o ho 8 _ rfl
     have s9:wr.cell? (xK sb (so+j*10+9))=some (.slice ea oe ec):=by rw [<-b1];exact C.cell j o ho 9 _ rfl
     have L:o.cells=[iV kd,iV o.a,iV o.b,iV ck,iV o.ca,iV o.cb,.string o.s,.slice la ol lc,.slice ba ob bc,.slice ea oe ec]:=by unfold POp.cells;rw [b3,a6,b1,a0,a2]
     obtain ⟨W5,a7⟩:=xE (wr.alloc (Obj.cells #[iV kd,iV o.a,iV o.b,iV ck,iV o.ca,iV o.cb,.string o.s,.slice la ol lc,.slice ba ob bc,.slice ea oe ec] 53));have b2:Bw wr W5:=by rw [a7];exact bA
     have F:AE W5 wr.heap.size 53 [iV kd,iV o.a,iV o.b,iV ck,iV o.ca,iV o.cb,.string o.s,.slice la ol lc,.slice ba ob bc,.slice ea oe ec]:=by rw [a7];exact AE.new wr 53 _
     obtain ⟨OB,c8⟩:=xE wr.heap.size;rw [<-c8] at F;have b7:=HA.1 wb j wr W5 f2 b2;have U:N<=wr.heap.size:=zg b4 a3.size
     have H:=AC (show kd≠1->(kd=0->GM ck)->cT 12 #[qP wb 0,.agg #[iV kd,iV o.a,iV o.b,iV ck,iV o.ca,iV o.cb,.string o.s,.slice la ol lc,.slice ba ob bc,.slice ea oe ec]] W5 λe w'=>e= .returned (.bool true)/\I wb (j+1) w' from λh1 h2=>by
      have:=HA.2.2.2 wb j W5 o ho (by rw [<-a0];exact h1) (by rw [<-a0,<-a2];exact h2) ((C.each o X).below (b2.mono U)) (zg U b2.size) b7;rw [L] at this
      exact this)
     have c9:Hid (I wb (j+1) W5):=HA.2.1 wb j W5 b7;have x0:cE W5 OB 0 (iV kd):=F.cell (j:=0) rfl;have x1:cE W5 OB 1 (iV o.a):=F.cell (j:=1) rfl;have x2:cE W5 OB 2 (iV o.b):=F.cell (j:=2) rfl;have x3:cE W5 OB 3 (iV ck):=F.cell (j:=3) rfl;have x4:cE W5 OB 4 (iV o.ca):=F.cell (j:=4) rfl;have x5:cE W5 OB 5 (iV o.cb):=F.cell (j:=5) rfl;have x6:cE W5 OB 6 (.string o.s):=F.cell (j:=6) rfl;have x7:cE W5 OB 7 (.slice la ol lc):=F.cell (j:=7) rfl;have x8:cE W5 OB 8 (.slice ba ob bc):=F.cell (j:=8) rfl;have x9:cE W5 OB 9 (.slice ea oe ec):=F.cell (j:=9) rfl;have g2:=AC a7;have h6:(0:Int)<=(j:Int):=om;have h9:(j:Int)<(n:Int):=om;clear a7 b2 F b7 C X ho b3 a6 b1 f3 f5 g0 a0 a2 L U a3 h3
     go_upto_region 11 with fail
     rw [<-AB g2,<-c8];clear g2 c8 s0 s1 s2 s3 s4 s5 s6 s7 s8 s9 l4;by_cases a4:kd=0
     ·subst a4;by_cases g4:0<=ck/\ck<62
      ·obtain ⟨c7,c6⟩:=g4
       go_upto_region 13 with fail
       go_cut [80] (λtv wc=>tv= .bool (cL ck)/\W5=wc)
       case first=>
        clear H c9 x0 x1 x2 x4 x5 x6 x7 x8 x9;rcases (show ck=0\/ck=1\/ck=2\/ck=3\/ck=4\/ck=5\/ck=6\/ck=7\/ck=8\/ck=9\/ck=10\/ck=11\/ck=12\/ck=13\/ck=14\/ck=15\/ck=16\/ck=17\/ck=18\/ck=19\/ck=20\/ck=21\/ck=22\/ck=23\/ck=24\/ck=25\/ck=26\/ck=27\/ck=28\/ck=29\/ck=30\/ck=31\/ck=32\/ck=33\/ck=34\/ck=35\/ck=36\/ck=37\/ck=38\/ck=39\/ck=40\/ck=41\/ck=42\/ck=43\/ck=44\/ck=45\/ck=46\/ck=47\/ck=48\/ck=49\/ck=50\/ck=51\/ck=52\/ck=53\/ck=54\/ck=55\/ck=56\/ck=57\/ck=58\/ck=59\/ck=60\/ck=61 by omega) with rfl|rfl|rfl|rfl|rfl|rfl|rfl|rfl|rfl|rfl|rfl|rfl|rfl|rfl|rfl|rfl|rfl|rfl|rfl|rfl|rfl|rfl|rfl|rfl|rfl|rfl|rfl|rfl|rfl|rfl|rfl|rfl|rfl|rfl|rfl|rfl|rfl|rfl|rfl|rfl|rfl|rfl|rfl|rfl|rfl|rfl|rfl|rfl|rfl|rfl|rfl|rfl|rfl|rfl|rfl|rfl|rfl|rfl|rfl|rfl|rfl|rfl
        all_goals
         go_wp2
         go_meet
         case rel=>exact ⟨rfl,rfl⟩
       case rest=>
        obtain ⟨rfl,rfl⟩:=hcut
        cases hsk:cL ck with
        |true=>
         clear hsk;go_wp2
         exact ⟨⟨j+1,om,rfl,sI,c9⟩,by simp only [intOf];omega⟩
        |false=>
         have Y:=AC (AB H dz (λ_=>mf hsk));clear hsk H
         go_wp2_with fail
         refine Y.mono ?_;rintro e w8 ⟨rfl,J⟩;have a1:=AC J;clear J Y x0 x1 x2 x3 x4 x5 x6 x7 x8 x9;go_wp2;exact ⟨⟨j+1,om,rfl,sI,a1⟩,by simp only [intOf];omega⟩
      ·have Y:=AC (AB H dz (λ_=> .inr (.inr (.inr (.inr (.inr (.inr (.inr om))))))));clear H;by_cases c7:0<=ck
       all_goals
        first
         |have c6:¬ck<62:=om
         |skip
        clear g4
        go_wp2_with fail
        refine Y.mono ?_;rintro e w8 ⟨rfl,J⟩;have a1:=AC J;clear J Y x0 x1 x2 x3 x4 x5 x6 x7 x8 x9;go_wp2;exact ⟨⟨j+1,om,rfl,sI,a1⟩,by simp only [intOf];omega⟩
     ·by_cases b0:kd=1
      ·subst b0;go_wp2;exact ⟨⟨j+1,om,rfl,sI,c9⟩,by simp only [intOf];omega⟩
      ·have q0:(kd==0)=false:=sU a4;have q1:(kd==1)=false:=sU b0;have H:=AC (AB H b0 (λe=>absurd e a4));clear a4 b0
       go_wp2_with fail
       refine H.mono ?_;rintro e w8 ⟨rfl,J⟩;have a1:=AC J;clear J H x0 x1 x2 x3 x4 x5 x6 x7 x8 x9;go_wp2;exact ⟨⟨j+1,om,rfl,sI,a1⟩,by simp only [intOf];omega⟩
    ·go_wp2;go_ret;exact ⟨rfl,AB g7⟩
  ·have q0:(f==0)=false:=sU hf;clear d7 b9 b8 d0 d1 d2 d3 d4 d5 hf;go_wp2;go_ret;exact ⟨rfl,AB g9⟩
section
open ChangeShapes WideShapes ChangeAt
def PE:prog.cellsOf 323=3:=kf
def gW:prog.cellsOf 73=1:=kf
def Tryz.hf:Tryz.prog.globalNamed "tinyos/exe.headerFields" =some 1:=kf
def Tryz.hfType:(Tryz.prog.globals[1]?).map (·.type)=some 324:=kf
def Fl {fuel:Nat} {b:Int} {p:List MemPlace}
  (h:DataW.trod (λ_=>()) prog W 0 (λ_=>true) false fuel 323 cs=some (.agg [.lit (.int .i64 a),.lit (.int .i64 b),.lit (.int .u64 c)],p)):cs=[.int .i64 a,.int .i64 b,.int .u64 c]:=by
 obtain ⟨xs,n,rfl,hx,hl,E,C⟩:=DataW.trod_struct underlying323 h;have G:cs.length=3:=hl.trans PE;have F:xs.length=3:=E;clear hl E;obtain ⟨v0,v1,v2,rfl⟩:=aw G;obtain ⟨x0,x1,x2,rfl⟩:=aw F;have h0:=C 0 _ rfl;have h1:=C 1 _ rfl;have h2:=C 2 _ rfl;simp only [qx,DataW.agg.injEq] at hx;obtain ⟨hx,_⟩:=hx;simp only [ub,List.map_nil,tt,and_true] at hx;obtain ⟨e0,e1,e2⟩:=hx;change DataW.trod _ prog W 0 _ false n 3 (List.take (prog.cellsOf 3) (List.drop 0 [v0,v1,v2]))=some x0 at h0;change DataW.trod _ prog W 0 _ false n 3 (List.take (prog.cellsOf 3) (List.drop 1 [v0,v1,v2]))=some x1 at h1;change DataW.trod _ prog W 0 _ false n 73 (List.take (prog.cellsOf 73) (List.drop 2 [v0,v1,v2]))=some x2 at h2;rw [Ku] at h0 h1;rw [gW] at h2;obtain ⟨n0,f0,g0,_⟩:=DataW.trod_int underlying3 (show DataW.trod _ _ _ _ _ _ n 3 [v0]=some x0 from h0)
 obtain ⟨n1,f1,g1,_⟩:=DataW.trod_int underlying3 (show DataW.trod _ _ _ _ _ _ n 3 [v1]=some x1 from h1);obtain ⟨n2,f2,g2,_⟩:=DataW.trod_int underlying73 (show DataW.trod _ _ _ _ _ _ n 73 [v2]=some x2 from h2);subst g0 g1 g2;simp only [DataW.lit.injEq,Lit.int.injEq,true_and,tt,and_true] at e0 e1 e2 f0 f1 f2;rw [f0,f1,f2,e0,e1,e2]
def Hb {k:Nat} {a b c:Value} (h:(cs.drop k).take 3=[a,b,c]):cs[k]? =some a/\cs[k+1]? =some b/\cs[k+2]? =some c:=by
 have g:∀r,r<3->cs[k+r]? =[a,b,c][r]? :=λr hr=>by
  rw [<-h,xq,vu hr,List.getElem?_drop]
 exact ⟨g 0 om,g 1 om,g 2 om⟩
def E5:List (String×DataW Unit):=[("unicode/utf8.acceptRanges",Rows.laid_unicode_utf8_acceptRanges),("errors.errorType",Rows.laid_errors_errorType),("tinyos/exe.headerFields",Rows.laid_tinyos_exe_headerFields),("tinyos/kernel.parts",Rows.laid_tinyos_kernel_parts),("unicode/utf8.first",Rows.laid_unicode_utf8_first)]
def Bk:List (String×DataW Unit):=[("unicode/utf8.acceptRanges",Rows.laid_unicode_utf8_acceptRanges),("tinyos/exe.headerFields",Rows.laid_tinyos_exe_headerFields),("tinyos/kernel.parts",Rows.laid_tinyos_kernel_parts),("unicode/utf8.first",Rows.laid_unicode_utf8_first)]
def Iw:(E5.filter λx=>x.2.handleName?.isNone)=Bk:=kf
def Nx:(E5.filter λx=>x.2.handleName?.isSome)=[("errors.errorType",Rows.laid_errors_errorType)]:=kf
def LM (h:laidMetH prog E5 W):laidMet prog Bk W/\handlesMet prog [("errors.errorType",Rows.laid_errors_errorType)] W:=by
 unfold laidMetH at h;rw [Nx,Iw] at h;exact h
def Rw (h:laidMetH prog E5 W):W.cell? (xK 0 0)=some (.iface 204 (.agg #[qP 6 33])):=
 gU (LM h).2 (qh.2 rfl)
def Sn (h:laidMetH prog E5 W):W.rangeAt 1 0 DK:=by
 obtain ⟨ps,F,_⟩:=(LM h).1;obtain ⟨_,_,_,_,_,_,_,_,_,_,hl,_⟩:=F;obtain ⟨g,t,cs,fuel,p,q,hg,ht,hv,H,_⟩:=hl;obtain rfl:=zr (Tryz.hf.symm.trans hg);obtain rfl:=zr (Tryz.hfType.symm.trans ht);have hc:=World.var?_cell Tryz.hf hv;obtain ⟨xs,m,rfl,hx,G,E,C⟩:=DataW.trod_array underlying324 H;unfold Rows.laid_tinyos_exe_headerFields at hx;simp only [qx,DataW.agg.injEq] at hx;obtain ⟨hx,_⟩:=hx
 match xs,E,hx,C with
 |[x0,x1,x2,x3,x4,x5],_,hx,C=>
  simp only [ub,List.map_nil,tt,and_true] at hx;obtain ⟨e0,e1,e2,e3,e4,e5⟩:=hx;rw [PE] at C;have k0:=C 0 om;have k1:=C 1 om;have k2:=C 2 om;have k3:=C 3 om;have k4:=C 4 om;have k5:=C 5 om;have d0:=Hb (Fl (p:=x0.2) (k0.trans (by show some x0=_;rw [e0])));have d1:=Hb (Fl (p:=x1.2) (k1.trans (by show some x1=_;rw [e1])));have d2:=Hb (Fl (p:=x2.2) (k2.trans (by show some x2=_;rw [e2])));have d3:=Hb (Fl (p:=x3.2) (k3.trans (by show some x3=_;rw [e3])));have d4:=Hb (Fl (p:=x4.2) (k4.trans (by show some x4=_;rw [e4])));have d5:=Hb (Fl (p:=x5.2) (k5.trans (by show some x5=_;rw [e5])));intro j v hj;rw [zq,hc];have hl:cs[j]? =cs.toList[j]? :=sI;rw [hl]
  match j,hj with
  |0,hj=>exact d0.1.trans hj
  |1,hj=>exact d0.2.1.trans hj
  |2,hj=>exact d0.2.2.trans hj
  |3,hj=>exact d1.1.trans hj
  |4,hj=>exact d1.2.1.trans hj
  |5,hj=>exact d1.2.2.trans hj
  |6,hj=>exact d2.1.trans hj
  |7,hj=>exact d2.2.1.trans hj
  |8,hj=>exact d2.2.2.trans hj
  |9,hj=>exact d3.1.trans hj
  |10,hj=>exact d3.2.1.trans hj
  |11,hj=>exact d3.2.2.trans hj
  |12,hj=>exact d4.1.trans hj
  |13,hj=>exact d4.2.1.trans hj
  |14,hj=>exact d4.2.2.trans hj
  |15,hj=>exact d5.1.trans hj
  |16,hj=>exact d5.2.1.trans hj
  |17,hj=>exact d5.2.2.trans hj
  |(k+18),hj=>simp [DK] at hj
def VK (os:Os):laidMet prog Bk ((World.doorLaid prog 400 os).layVars prog Bk):=by
 have e1:(Bk.filter λx=>(Bk.map (·.1)).contains x.1)=Bk:=qu.2 λx hx=>List.contains_iff_mem.2 (yt.2 ⟨x,hx,rfl⟩);have e2:(Bk.filter λx=> !(Bk.map (·.1)).contains x.1)=[]:=tp.2 λx hx=>by rw [List.contains_iff_mem.2 (yt.2 ⟨x,hx,rfl⟩)];simp
 exact laidMet_layVars (w0:=World.doorLaid prog 400 os) (Bk.map (·.1)) [] (by rw [e1]) (by rw [e1];kernel_rfl) (by rw [e1];kernel_rfl) (by rw [e2];exact LaidIn.none)
def VL (os:Os) (args:Array Value):laidMetH prog E5 (((World.doorLaid prog 400 os).layVars prog Bk).forCall (λ_ _=>0) ⟨#[],args,[]⟩).memory:=
 laidMetH_of_parts3 (fuel:=8) (by rw [Iw];exact (VK os).of_heap (by simp [World.memory,World.forCall,Input.heap])) kf kf
end
end Go.Proofs.YtpcjkidgohpeoaaGreatDoor
