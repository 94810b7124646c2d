import Derived.Test.YtpcjkidgohpeoaaGreatDoorG32
set_option maxRecDepth 100000
set_option maxHeartbeats 8000000
set_option linter.all false
namespace Go.Proofs.YtpcjkidgohpeoaaGreatDoor
open RowKit Proofs.Tryz
variable {P:Program} {ops:Array Oper} {rest:List Oper} {o:Oper} {a:Act} {w w':World} {Q:Exit->Act->World->Prop} {base n g j i gp' cp' gp cp m cap:Nat} {PS:List Pg} {q:Pg} {L L':List (AP×RL)} {pid st:Int} {cs:List (List Int)} {T M:List Nat} {y x:AP×RL} {e:Ending} {ks:List AP} {A R C ty:List Value} (xa:Option Addr) (v:Value) (z addr:Int) (k xc kb:Nat)
def RY (xa:Option Addr) (xc k:Nat):Option Addr:=if xc=k then xa else xa.map (λad=>ad.add (k*258))
def Xj (n k:Nat) (hk:k<=n) (hn:n<=xc) (w:World):(Instr.sliceAt 75 (.slice xa n xc) none (some (iV (k:Nat))) none).run prog w= .ok (.slice xa k xc) w:=by
 have h0:(0:Int)<=(k:Int):=om;have h1:(k:Int)<=(xc:Int):=om
 cases xa with
 |none=>go_simp
 |some ad=>go_simp
def Sh (n k:Nat) (hk:k<=n) (hn:n<=xc) (w:World):(Instr.sliceAt 75 (.slice xa n xc) (some (iV (k:Nat))) none none).run prog w= .ok (.slice (RY xa xc k) (n-k) (xc-k)) w:=by
 have h0:(0:Int)<=(k:Int):=om;have h1:(k:Int)<=(n:Int):=om;unfold RY;by_cases hc:xc=k
 ·rw [vu hc];subst hc
  cases xa with
  |none=>go_simp
  |some ad=>go_simp
 ·rw [vz hc]
  cases xa with
  |none=>go_simp
  |some ad=>go_simp
def KJ (D:o.guard=none) (t:TypeId) (x:Operand) (lo hi mx:Option Operand) (ho:o.op= .slice t x lo hi mx) (v0:Value) (vl vh vm:Option Value) (h0:a.eval x=v0) (hl:lo.map a.eval=vl) (hh:hi.map a.eval=vh) (hm:mx.map a.eval=vm) (v:Value) (B:(Instr.sliceAt t v0 vl vh vm).run P w= .ok v w) (h:wpList P ops Q rest (a.put o.dst v) w):wpList P ops Q (o::rest) a w:=
 wpList_plain D λK hK=>by
  unfold Oper.wp execOp;simp only [ho,h0,hl,hh,hm,uk,B,ye,sr];exact hK _ _ h
def bp {B:Nat} {e:TypeId} {v:Value} {xs:List Value} (h:w.ownsRow base e B v n xs) (hg:w.grownBy w' v.ownBlock) (hb:base<=w.heap.size):Below base w w':=
 ⟨hg.os,hg.tape,hg.output,hg.size,λb D=>hg.block b om (λe=>o1 (h.lt b e.symm).1)⟩
def Zk (h:Bs w g PS) (m:Nat):Bs w g (PS.take m):=λi p hp=>h i p (by
 rw [xq] at hp;split at hp
 ·exact hp
 ·cases hp)
def jf (w:World) (base:Nat) (xa:Option Addr) (ga xc m:Nat) (PS:List Pg) (hb:∀p∈PS,p.bytes.length=256) (hn:PS.length<=1000) (hm:m<=PS.length) (F:base<=w.heap.size) (ha:0<PS.length->xa=some (xK ga 0)/\Bs w ga PS):
  ∃a1 c1 w1,(Builtin.append_ #[75,75] 75 #[sN,.slice xa m xc]).run prog w= .ok (.slice a1 m c1) w1/\w1.ownsRow base 136 258 (.slice a1 m c1) (PS.take m).length (As (PS.take m))/\Bw w w1:=by
 have B:(PS.take m).length=m:=by rw [yr];omega
 have D:∀p∈PS.take m,p.bytes.length=256:=λp hp=>hb p (sm hp)
 obtain ⟨v,w',hr,ho,hg,hv⟩:=JS w base sN [] sI (uy _ _ _ _) xa xc (PS.take m) D 75 (λad E j u hu=>by
  have hj:=(zy.1 hu).1;rw [Hl D,B] at hj;obtain ⟨h1,h2⟩:=ha om;rw [h1] at E;obtain rfl:=zr E;rw [Ah,zq];exact Nn (Zk h2 m) D j u hu) (λh=>by
  cases PS with
  |nil=>simp
  |cons a r=>have:=(ha sI).1;rw [h] at this;cases this) (by rw [B];simp;omega) F
 rw [xt] at ho;rw [B] at hr;obtain ⟨a1,c1,rfl, -, -⟩:=Ip ho;rw [B] at hr ho ⊢;have hg:w.grownBy w' none:=hg;exact ⟨a1,c1,w',hr,ho,⟨hg.os,hg.tape,hg.output,hg.size,λb hb=>hg.block b hb sI⟩⟩
def oG (w:World) (base:Nat) (v:Value) (X:List Pg) (q:Pg) (hX:∀p∈X,p.bytes.length=256) (hq:q.bytes.length=256) (ho:w.ownsRow base 136 258 v X.length (As X)) (hn:X.length<=1000) (F:base<=w.heap.size):
  ∃a1 c1 w1,(Builtin.append_ #[75,75] 75 #[v,sL w.heap.size 0 1 1]).run prog (w.alloc (.cells (AY q.num q.perm q.bytes).toArray 136))= .ok (.slice a1 (X.length+1) c1) w1/\w1.ownsRow base 136 258 (.slice a1 (X.length+1) c1) (X++[q]).length (As (X++[q]))/\Below base w w1:=by
 have hs:(w.alloc (.cells (AY q.num q.perm q.bytes).toArray 136)).heap.size=w.heap.size+1:=sI;have B:=ho.alloc (.cells (AY q.num q.perm q.bytes).toArray 136)
 obtain ⟨v',w',hr,D,hg,hv⟩:=JS _ base v X hX B (some (xK w.heap.size 0)) 1 [q] (sU hq) 75 (λad G j u hu=>by
  obtain rfl:=zr G;rw [Ah,zq];rw [QD] at hu
  exact (AE.new w 136 (AY q.num q.perm q.bytes)).cell hu) (λh=>by cases h) sO om
 have hl:(X++[q]).length=X.length+1:=sI;have E:=D;rw [hl] at E;obtain ⟨a1,c1,rfl, -, -⟩:=Ip E;exact ⟨a1,c1,w',hr,D,((zw base w).alloc F _).trans (bp B hg om)⟩
def jg (w:World) (base:Nat) (v:Value) (X:List Pg) (xa:Option Addr) (ga xc m:Nat) (PS:List Pg) (hX:∀p∈X,p.bytes.length=256) (hb:∀p∈PS,p.bytes.length=256) (ho:w.ownsRow base 136 258 v X.length (As X)) (I:X.length<=1000) (hn:PS.length<=1000) (hm:m<=PS.length) (hc:PS.length<=xc) (E:base<=w.heap.size) (ha:0<PS.length->xa=some (xK ga 0)/\Bs w ga PS):
  ∃a1 c1 w1,(Builtin.append_ #[75,75] 75 #[v,.slice (RY xa xc m) (PS.length-m) (xc-m)]).run prog w= .ok (.slice a1 (X++PS.drop m).length c1) w1/\w1.ownsRow base 136 258 (.slice a1 (X++PS.drop m).length c1) (X++PS.drop m).length (As (X++PS.drop m))/\Below base w w1:=by
 have B:(PS.drop m).length=PS.length-m:=sx;have G:∀p∈PS.drop m,p.bytes.length=256:=λp hp=>hb p (rq hp);have H:As PS=As (PS.take m)++As (PS.drop m):=by rw [<-K4,uq]
 obtain ⟨v',w',hr,F,hg,hv⟩:=JS w base v X hX ho (RY xa xc m) (xc-m) (PS.drop m) G 75 (λad D j u hu=>by
  have hj:=(zy.1 hu).1;rw [Hl G,B] at hj;obtain ⟨h1,h2⟩:=ha om;unfold RY at D;rw [vz om,h1] at D;obtain rfl:=zr D;have ht:(As (PS.take m)).length=m*258:=by rw [Hl (λp hp=>hb p (sm hp)),yr];congr 1;omega
  have:(As PS)[m*258+j]? =some u:=by rw [H,zn om,ht,yc];exact hu
  have:=Nn h2 hb _ u this;show w.cell? ((((xK ga 0):Addr).add (m*258)).add j)=some u;rw [Ah,Ah,zq];exact this) (λh=>by
  refine uz ?_;rw [B];by_cases h0:0<PS.length
  ·unfold RY at h;split at h
   ·omega
   ·rw [(ha h0).1] at h;cases h
  ·omega) (by rw [B];omega) E
 rw [B] at hr;obtain ⟨a1,c1,rfl, -, -⟩:=Ip F;exact ⟨a1,c1,w',hr,F,bp ho hg E⟩
def Zl (PS:List Pg):Int:=match (DE PS).getLast? with|some q=>q.num+1|none=>0
def Xk (h:PS[j]? =some q):DE (PS.take (j+1))=DE (PS.take j)++(if q.num<254 then [q] else []):=by
 unfold DE;rw [uw,h,List.filter_append];by_cases hq:q.num<254
 ·simp [hq]
 ·simp [hq]
def fD (h:PS[j]? =some q):Zl (PS.take (j+1))=if q.num<254 then q.num+1 else Zl (PS.take j):=by
 unfold Zl;rw [Xk h];by_cases hq:q.num<254
 ·simp [hq]
 ·simp [hq]
def mD (hs:PS.Pairwise (λp q=>p.num<q.num)) (h:PS[j]? =some q) (hq:q.num<254):DE (PS.take j)=PS.take j:=by
 unfold DE;refine qu.2 (λp hp=> ?_);obtain ⟨i,hi⟩:=yj.1 hp;rw [xq] at hi;split at hi
 ·rename_i hij
  have hl:=(zy.1 h).1;have e1:=(zy.1 hi).2;have e2:=(zy.1 h).2;have:=vd.1 hs i j om hl hij;rw [e1,e2] at this;simp;omega
 ·cases hi
def Xl (hs:PS.Pairwise (λp q=>p.num<q.num)) (h:PS[j]? =some q):(DE (PS.take (j+1))).length=if q.num<254 then j+1 else (DE (PS.take j)).length:=by
 have hl:=(zy.1 h).1;rw [Xk h];by_cases hq:q.num<254
 ·rw [vu hq,vu hq,mD hs h hq];simp;omega
 ·rw [vz hq,vz hq,xr]
def Xm (hs:PS.Pairwise (λp q=>p.num<q.num)):PS.take (DE PS).length=DE PS/\PS.drop (DE PS).length=Lu PS:=by
 have h:=Mu hs;obtain ⟨A,hA⟩:=xE (DE PS);obtain ⟨B,hB⟩:=xE (Lu PS);rw [<-hA,<-hB] at h ⊢;rw [<-h];simp
def No {PS:List Pg} (h:Bc PS):∀n,0<CN PS n->∃p∈PS,p.num=(CN PS n:Int)-1/\CN PS n<=n
 |0,h0=>by simp [CN] at h0
 |n+1,h0=>by
  unfold CN at h0 ⊢;split
  ·rename_i hz
   rw [vu hz] at h0;obtain ⟨p,h1,h2,h3⟩:=No h n h0;exact ⟨p,h1,h2,om⟩
  ·rename_i hz
   rcases Gr h n with ⟨h1,_⟩|⟨_,p,hp,e,_⟩
   ·exact absurd h1 hz
   ·have:p.num=(n:Int):=sU (qz e);exact ⟨p,hp,by rw [this];omega,zx _⟩
def Zm (h:Bc PS):Zl PS=(CN PS 254:Int):=by
 unfold Zl
 cases hg:(DE PS).getLast? with
 |none=>
  have hn:=List.getLast?_eq_none_iff.1 hg;by_cases h0:0<CN PS 254
  ·obtain ⟨p,h1,h2,h3⟩:=No h 254 h0;have:p∈DE PS:=vk.2 ⟨h1,sO⟩;rw [hn] at this;cases this
  ·show (0:Int)=_
   omega
 |some q=>
  have hq:=List.mem_of_getLast? hg;obtain ⟨q1,q2⟩:=vk.1 hq;have q2:q.num<254:=sU q2;have hl:=Kp h 254 q q1 q2;have E:=(h.each q q1).1;obtain ⟨p,h1,h2,h3⟩:=No h 254 om;have hp:p∈DE PS:=vk.2 ⟨h1,sO⟩;have B:(DE PS).Pairwise (λp q=>p.num<q.num):=h.sorted.filter _
  have:p.num<=q.num:=by
   obtain ⟨ys,D⟩:=List.getLast?_eq_some_iff.1 hg;rw [D] at hp B;rcases vo.1 hp with hp|hp
   ·have:=(ud.1 B).2.2 p hp q sI;omega
   ·have:p=q:=sU hp;rw [this];omega
  show q.num+1=_;omega
def KL (x:AP) (n:Int):AP:={x with PS:=Cp x.PS (CN x.PS 254) n.toNat}
def Gc (base gp cp:Nat) (lf:Int) (L:List (AP×RL)) (i:Nat) (x:AP×RL) (n:Int) (w:World) (e:Ending) (w':World):Prop:=
 (¬(0<=n/\n<=64)/\e= .returned (.tuple #[iV 0,iV 6])/\Bw w w')\/
 ((0<=n/\n<=64)/\(lf<((DP L).sum:Int)+n\/254<(CN x.1.PS 254:Int)+n)/\e= .returned (.tuple #[iV 0,iV 7])/\Bw w w')\/
 ((0<=n/\n<=64)/\((DP L).sum:Int)+n<=lf/\(CN x.1.PS 254:Int)+n<=254/\e= .returned (.tuple #[iV ((CN x.1.PS 254:Nat)*256),iV 0])/\∃l:RL,w'.ownsRow base 78 31 (sL gp 0 L.length cp) L.length (Ai (L.set i (KL x.1 n,l)))/\(KL x.1 n).PS.length<=l.ca/\(0<(KL x.1 n).PS.length->l.aa=some (xK l.ga 0)/\w.heap.size<=l.ga/\l.ga<w'.heap.size/\Bs w' l.ga (KL x.1 n).PS/\∀i,w'.frozen? (xK l.ga i)=false)/\w.grownBy w' (some gp))
def jh (base kb g cap gp cp:Nat) (k:RK) (BL:List Nat) (oa:Option Addr) (on oc:Nat) (L:List (AP×RL)) (i:Nat) (x:AP×RL) (n:Int) (w:World) (hk:EB w base kb g cap k) (l8:k.pv= sL gp 0 L.length cp) (k4:k.ov= .slice oa on oc) (m2:Ps k.inos BL) (l6:k.inos.length<=100000) (j7:BL.sum<=10000000) (m9:(DP L).sum<=1000000)
  (h:RPs w base gp cp L) (hx:L[i]? =some x) (I:Bc x.1.PS) (k8:x.1.PS.length<=900) (l5:gp≠kb) (hN:L.length<=1000) (hb:base<=w.heap.size):
  cT 95 #[qP kb 0,qP gp (i*31),iV n] w (Gc base gp cp k.lf L i x n w):=by
 have l4:=hk.1.lt;obtain ⟨N,O⟩:=xE L.length;obtain ⟨lf,h5⟩:=xE k.lf;obtain ⟨F,hF⟩:=xE ((DP L).sum);obtain ⟨PS,D⟩:=xE x.1.PS;obtain ⟨np,E⟩:=xE PS.length;obtain ⟨xa,f4⟩:=xE x.2.aa;obtain ⟨xc,g9⟩:=xE x.2.ca;obtain ⟨xg,h4⟩:=xE x.2.ga;have c1:w.cell? (xK kb 1)=some (iV lf):=by rw [h5];exact hk.1.cell rfl
 have c6:w.cell? (xK gp (i*31+22))=some (.slice xa np xc):=by
  rw [f4,g9,E,D];exact h.cell hx (by unfold rpc Au;rfl)
 have b7:np<=xc:=by rw [E,D,g9];exact h.cap x (zv hx)
 have i3:=AC (show 0<np->xa=some (xK xg 0)/\xg<w.heap.size/\xg≠gp/\Bs w xg PS from λh0=>by
  obtain ⟨g1,g2,g3,g4,g5⟩:=h.pages x (zv hx) (by rw [<-D,<-E];exact h0);rw [f4,h4,D]
  exact ⟨g1,g2,g3,g4⟩)
 have j8:∀W,Bw w W->cT 62 #[qP kb 0] W λe w'=>e= .returned (.agg (BK (N:Nat) (F:Nat) (on:Nat) k.inos.length BL.sum).toArray)/\Bw W w':=λW hW=>by
  have l1:(DP L).length=N:=by unfold DP;rw [zc,O]
  have:=GV base kb g cap k (DP L) BL oa on oc W (hk.below hW) (MR (Mv L) l8 (h.below hW).own) k4 m2 l6 (by rw [l1];omega) om j7;rw [l1,<-hF] at this;exact this
 have j5:=AC j8;obtain ⟨QQ,j4⟩:=xE (Gc base gp cp lf L i x n w);rw [<-h5,<-j4];have HQ:=AC j4;have k7:=AC h;have d6:Bc PS:=by rw [D];exact I
 have HX:=AC (xi hx (xi d6 (xi D (xi E (xi O hF)))));have f2:=AC (xi f4 (xi g9 h4));have p0:F<=1000000:=om;have p3:np<=900:=by rw [E,D];exact k8
 have h9:=AC (show kb<w.heap.size/\gp<w.heap.size/\base<=w.heap.size/\kb≠gp from ⟨l4,h.lt.2,hb,l5.symm⟩);obtain ⟨kn,j6⟩:∃kn:Int,kn=(k.inos.length:Nat):=⟨_,rfl⟩;obtain ⟨g6,f1⟩:∃g6:Int,g6=(BL.sum:Nat):=⟨_,rfl⟩;rw [<-j6,<-f1] at j5;clear hk l8 k4 m2 l6 j7 m9 h hx I d6 k8 l5 hN hb O h5 hF D E f4 g9 h4 j4 j8 j6 f1 l4;go_enter func95,ntmps95;by_cases o9:n<0
 ·have G:=AC (show Gc base gp cp lf L i x n w (.returned (.tuple #[iV 0,iV 6])) w from .inl ⟨om,rfl,zw _ _⟩);go_wp2;rw [AB HQ];exact AB G
 by_cases o0:n>64
 ·have G:=AC (show Gc base gp cp lf L i x n w (.returned (.tuple #[iV 0,iV 6])) w from .inl ⟨om,rfl,zw _ _⟩);go_wp2;rw [AB HQ];exact AB G
 obtain ⟨m,rfl⟩:∃m:Nat,n=(m:Nat):=⟨n.toNat,om⟩;have o6:(0:Int)<=(m:Int):=om;go_wp2
 go_loopw [8,9,10] (λtv av iv wr=>∃j:Nat,j<=np/\tv= iV (Zl (PS.take j))/\av= iV ((DE (PS.take j)).length:Nat)/\iv= iV j/\wr=w) (λ_ _ iv _=>np-(intOf iv).toNat)
 case atStart=>exact ⟨0,om,rfl,rfl,rfl,rfl⟩
 case round=>
  obtain ⟨j,hj,rfl,rfl,rfl,hw⟩:=hrel;have hw:=hw.symm;subst hw;obtain ⟨tb,c0⟩:=xE (Zl (PS.take j));obtain ⟨lb,h8⟩:=xE ((DE (PS.take j)).length);rw [<-c0,<-h8];have c4:=AC (xi c0 h8);clear c0 h8;have j0:(0:Int)<=(j:Int):=om;by_cases m8:j<np
  ·have j1:(j:Int)<(np:Int):=om;obtain ⟨hx,I,D,E,O,hF⟩:=AB HX;obtain ⟨q,hq⟩:∃q,PS[j]? =some q:=⟨_,zz om⟩;obtain ⟨g1,g2,g3,g4⟩:=AB i3 om;obtain ⟨qn,i7⟩:=xE q.num;have cq:w.cell? (xK xg (j*258))=some (iV qn):=by rw [i7];exact (g4 j q hq).1
   have m7:=I.each q (zv hq);have o7:0<=qn:=om;have p1:qn<256:=om;have d2:=AC (fD hq);have k2:=AC (Xl I.sorted hq);have g8:=AC i7;obtain ⟨J1,l2⟩:=xE (j+1);have o8:(j:Int)+1=(J1:Int):=om;have a5:=AC l2;rw [g1] at c6;clear hx I D E O hF hq g1 g2 g3 g4 i7 m7 l2;by_cases f9:qn<254
   ·go_wp2;exact ⟨⟨J1,o1 (AB a5),by rw [AB a5,AB d2,<-AB g8,vu f9],by rw [AB a5,AB k2,<-AB g8,vu f9],rfl,trivial⟩,by have:=AB a5;simp only [intOf];omega⟩
   ·go_wp2;exact ⟨⟨J1,o1 (AB a5),by rw [AB a5,AB d2,<-AB g8,vz f9,c4.1],by rw [AB a5,AB k2,<-AB g8,vz f9,c4.2],rfl,trivial⟩,by have:=AB a5;simp only [intOf];omega⟩
  ·have j1:¬(j:Int)<(np:Int):=om;obtain rfl:j=np:=om;obtain ⟨BR,g7⟩:=xE (CN PS 254)
   have c0:tb=(BR:Nat):=by
    obtain ⟨hx,I,D,E,O,hF⟩:=AB HX;rw [c4.1,E,uh,Zm I,g7]
   have b9:=AC (show lb=(DE PS).length from by
    obtain ⟨hx,I,D,E,O,hF⟩:=AB HX
    rw [c4.2,E,uh])
   have m4:BR<=254:=by rw [g7];exact Lv _ _
   subst c0;have m1:=AC g7;clear c4 g7;have HU:=AC (AB j5 w (zw _ _))
   go_wp2_with fail
   refine HU.mono ?_;rintro e w3 ⟨rfl,c7⟩;unfold BK;obtain ⟨W4,b1⟩:=xE (w3.alloc (Obj.cells #[iV (N:Nat),iV (F:Nat),iV (on:Nat),iV kn,iV g6] 68));have b6:Bw w W4:=by rw [b1];exact c7.alloc c7.size _
   obtain ⟨UB,c5⟩:=xE w3.heap.size;have f7:AE W4 UB 68 [iV (N:Nat),iV (F:Nat),iV (on:Nat),iV kn,iV g6]:=by rw [b1,c5];exact AE.new w3 68 _
   have b4:=AC (show W4.drew.cell? (xK UB 1)=some (iV (F:Nat))/\W4.drew.cell? (xK kb 1)=some (iV lf) from ⟨f7.cell rfl,by show W4.cell? _=_;rw [b6.cell (p:=(xK kb 1)) h9.1];exact c1⟩);obtain ⟨FM,g0⟩:=xE (F+m);obtain ⟨BM,f3⟩:=xE (BR+m);obtain ⟨qm,b8⟩:∃qm:Bool,qm=decide ((FM:Int)>lf):=⟨_,rfl⟩;obtain ⟨qb,d0⟩:∃qb:Bool,qb=decide ((BM:Int)>254):=⟨_,rfl⟩
   have R4:=AC (show ∀w':World,((do eqGuard .add 3 (.tmp 52) (.tmp 53) (iV (F:Nat)) (iV (m:Nat));binOp .add 3 (iV (F:Nat)) (iV (m:Nat)):Sem Value)).run prog w'= .ok (iV (FM:Nat)) w' from λw'=>by
    have:=Pk (.tmp 52) (.tmp 53) (F:Nat) (m:Nat) om w'
    rwa [show ((F:Nat):Int)+((m:Nat):Int)=((FM:Nat):Int) by omega] at this)
   have R6:=AC (show ∀w':World,((do eqGuard .add 3 (.tmp 62) (.tmp 63) (iV (BR:Nat)) (iV (m:Nat));binOp .add 3 (iV (BR:Nat)) (iV (m:Nat)):Sem Value)).run prog w'= .ok (iV (BM:Nat)) w' from λw'=>by
    have:=Pk (.tmp 62) (.tmp 63) (BR:Nat) (m:Nat) om w'
    rwa [show ((BR:Nat):Int)+((m:Nat):Int)=((BM:Nat):Int) by omega] at this)
   have R5:=AC (show ∀w':World,((do eqGuard .gtr 3 (.tmp 54) (.tmp 59) (iV (FM:Nat)) (iV lf);binOp .gtr 3 (iV (FM:Nat)) (iV lf):Sem Value)).run prog w'= .ok (.bool qm) w' from λw'=>by
    rw [b8];clear b8 d0 g0 f3 b1 c7 b6 c5 f7 c6 R4 R6 b4 c1
    go_simp)
   have R7:=AC (show ∀w':World,((do eqGuard .gtr 3 (.tmp 64) (.const (iV 254)) (iV (BM:Nat)) (iV 254);binOp .gtr 3 (iV (BM:Nat)) (iV 254):Sem Value)).run prog w'= .ok (.bool qb) w' from λw'=>by
    rw [d0];clear b8 d0 g0 f3 b1 c7 b6 c5 f7 c6 R4 R5 R6 b4 c1
    go_simp)
   have k1:=AC b1;have i0:Bw w W4.drew:=b6.trans ((show Bw W4 W4.drew from (zw _ _).drew).mono b6.size);have b3:W4.drew.cell? (xK gp (i*31+22))=some (.slice xa j xc):=by rw [i0.cell (p:=(xK gp (i*31+22))) h9.2.1];exact c6
   have Z:=AC i0;have V:=AC b3;have j3:=AC (xi g0 (xi f3 (xi b8 d0)));clear b1 c7 b6 f7 c6 g0 f3 b8 d0 c1 HU j5 i0 b3
   go_upto_region 12 with fail
   rw [<-AB k1,<-c5];clear k1 c5
   cases qm with
   |true=>
    have G:=AC (show Gc base gp cp lf L i x (m:Nat) w (.returned (.tuple #[iV 0,iV 7])) W4.drew from .inr (.inl ⟨om,by
     obtain ⟨hx,I,D,E,O,hF⟩:=AB HX;obtain ⟨z1,z2,z3,z4⟩:=AB j3;have:=tu z3.symm;rw [<-hF];left
     omega,rfl,AB Z⟩))
    refine Ak ?_;intro A hA;have e0:A.eval (.tmp 0)= qP kb 0:=eH hA;have e2:A.eval (.tmp 2)= iV (m:Nat):=eH hA;have e8:A.eval (.tmp 8)= iV (BR:Nat):=eH hA;have i8:A.eval (.tmp 11)= qP UB 0:=eH hA;have i5:A.tmps.size=101:=eZ hA;have HA:=AC hA;clear hA;refine xf (S:=λw'=>w'.cell? (xK UB 1)=some (iV (F:Nat))/\w'.cell? (xK kb 1)=some (iV lf)) kf b4 (λhS=> ?_);refine tq 0 51 rfl (yF (qP UB 0) (qP UB 1)) hS (tq 1 52 rfl (yl (λw' h=>CG h.1)) hS (tq 2 53 rfl (yM (iV (m:Nat))) hS (tq 3 54 rfl (yB (iV (F:Nat)) (iV (m:Nat)) (iV (FM:Nat)) R4) hS (tq 4 55 rfl (yM (qP kb 0)) hS (tq 5 56 rfl (yN (xK kb 0)) hS ?_)))));refine tq 6 57 rfl (yF (qP kb 0) (qP kb 0)) hS ?_
    refine tq 7 58 rfl (yF (qP kb 0) (qP kb 1)) hS (tq 8 59 rfl (yl (λw' h=>CG h.2)) hS (tq 9 60 rfl (yB (iV (FM:Nat)) (iV lf) (.bool true) R5) hS (tq 10 61 rfl (yM (.bool true)) hS (tq 11 62 rfl yO hS (tq 12 63 rfl yO hS ?_)))));refine tq 13 64 rfl yO hS (tq 14 65 rfl yO hS (tq 15 66 rfl (De rfl _ _ _ rfl true (.bool true) sE sE) hS ?_));refine vg kf ?_ _;rw [AB HA];simp only [Act.put,zl,zh,zi];clear hS HA e0 e2 e8 i8 i5 A R4 R5 R6 R7 b4;obtain ⟨W5,c9⟩:=xE W4.drew;rw [<-c9] at G ⊢;clear c9 Z V;go_wp2;rw [AB HQ]
    exact AB G
   |false=>
    refine Ak ?_;intro A hA;have e0:A.eval (.tmp 0)= qP kb 0:=eH hA;have e2:A.eval (.tmp 2)= iV (m:Nat):=eH hA;have e8:A.eval (.tmp 8)= iV (BR:Nat):=eH hA;have i8:A.eval (.tmp 11)= qP UB 0:=eH hA;have i5:A.tmps.size=101:=eZ hA;have HA:=AC hA;clear hA;refine xf (S:=λw'=>w'.cell? (xK UB 1)=some (iV (F:Nat))/\w'.cell? (xK kb 1)=some (iV lf)) kf b4 (λhS=> ?_);refine tq 0 51 rfl (yF (qP UB 0) (qP UB 1)) hS (tq 1 52 rfl (yl (λw' h=>CG h.1)) hS (tq 2 53 rfl (yM (iV (m:Nat))) hS (tq 3 54 rfl (yB (iV (F:Nat)) (iV (m:Nat)) (iV (FM:Nat)) R4) hS (tq 4 55 rfl (yM (qP kb 0)) hS (tq 5 56 rfl (yN (xK kb 0)) hS ?_)))));refine tq 6 57 rfl (yF (qP kb 0) (qP kb 0)) hS ?_
    refine tq 7 58 rfl (yF (qP kb 0) (qP kb 1)) hS (tq 8 59 rfl (yl (λw' h=>CG h.2)) hS (tq 9 60 rfl (yB (iV (FM:Nat)) (iV lf) (.bool false) R5) hS (tq 10 61 rfl (yM (.bool false)) hS (tq 11 62 rfl (yG (yM (iV (BR:Nat)))) hS (tq 12 63 rfl (yG (yM (iV (m:Nat)))) hS ?_)))));refine tq 13 64 rfl (yG (yB (iV (BR:Nat)) (iV (m:Nat)) (iV (BM:Nat)) R6)) hS (tq 14 65 rfl (yG (yB (iV (BM:Nat)) (iV 254) (.bool qb) R7)) hS (tq 15 66 rfl (De rfl _ _ _ rfl false (.bool qb) sE sE) hS ?_));refine vg kf ?_ _;rw [AB HA];simp only [Act.put,zl,zh,zi];clear hS HA e0 e2 e8 i8 i5 A R4 R5 R6 R7 b4;obtain ⟨W5,c9⟩:=xE W4.drew;rw [<-c9] at Z V ⊢;clear c9
    cases qb with
    |true=>
     have G:=AC (show Gc base gp cp lf L i x (m:Nat) w (.returned (.tuple #[iV 0,iV 7])) W5 from .inr (.inl ⟨om,by
      obtain ⟨hx,I,D,E,O,hF⟩:=AB HX;obtain ⟨z1,z2,z3,z4⟩:=AB j3;have:=tu z4.symm;have b2:=AB m1;rw [<-D,<-b2];right
      omega,rfl,AB Z⟩))
     clear Z V;go_wp2;rw [AB HQ]
     exact AB G
    |false=>
     obtain ⟨hx,I,D,E,O,hF⟩:=AB HX;have a6:∀p∈PS,p.bytes.length=256:=λp hp=>(I.each p hp).2.2.2.2;have J:lb<=j:=by rw [AB b9,E];exact List.length_filter_le _ _
     have d9:0<PS.length->xa=some (xK xg 0)/\Bs W5 xg PS:=λh0=>by
      obtain ⟨g1,g2,g3,g4⟩:=AB i3 om;exact ⟨g1,g4.below Z⟩
     obtain ⟨a1,c1,w7,r7,i2,m0⟩:=jf W5 w.heap.size xa xg xc lb PS a6 om om Z.size d9;have e1:PS.take lb=DE PS:=by rw [AB b9];exact (Xm I.sorted).1
     have e2:PS.drop lb=Lu PS:=by rw [AB b9];exact (Xm I.sorted).2
     rw [e1] at i2;have l0:=Xj xa xc j lb J b7 W5;have b3:=AB V;have n4:=AC i2;have n8:Hid (Bw w w7):=Z.trans (m0.mono Z.size);have i4:=AC (xi a6 (xi e2 J));clear hx I D E O hF a6 d9 i2 m0 e1 e2 V J
     go_upto_region 16 with (first
      |(refine KJ rfl _ _ _ _ _ (by rfl) _ _ _ _ (by rfl) (by rfl) (by rfl) (by rfl) _ l0 ?_)
      |(at_builtin;refine Ar rfl _ _ _ (by rfl) _ _ _ _ (by rfl) (by rfl) r7 ?_))
     clear l0 r7 b3;go_wp2
     go_loopw [12,13] (λv tv wr=>∃(t K:Nat) (a:Option Addr) (c:Nat),t<=m/\tv= iV t/\v= .slice a K c/\Hid (K=(DE PS++EK BR t).length/\wr.ownsRow w.heap.size 136 258 (.slice a K c) (DE PS++EK BR t).length (As (DE PS++EK BR t)))/\Hid (Bw w wr)) (λ_ tv _=>m-(intOf tv).toNat)
     case atStart=>
      refine ⟨0,lb,a1,c1,om,rfl,rfl,AC ?_,n8⟩;rw [show EK BR 0=[] from rfl,xr];exact ⟨AB b9,AB n4⟩
     case round=>
      obtain ⟨t,K,a,c,ht,rfl,rfl,HO,HB⟩:=hrel;have t0:(0:Int)<=(t:Int):=om;obtain ⟨X,hX⟩:=xE (DE PS++EK BR t);obtain ⟨hK,hO⟩:=AB HO;rw [<-hX] at hK hO
      have d8:∀p∈X,p.bytes.length=256:=λp hp=>by
       rw [hX] at hp;rcases vo.1 hp with hp|hp
       ·exact i4.1 p (vk.1 hp).1
       ·obtain ⟨_,_,rfl⟩:=GH hp;exact AT
      have k3:X.length<=964:=by
       rw [hX,zm];have h1:(DE PS).length<=j:=by have:=i4.2.2;rw [AB b9] at this;exact this
       have h2:(EK BR t).length=t:=by unfold EK;simp
       omega
      by_cases m8:t<m
      ·have t1:(t:Int)<(m:Int):=om;obtain ⟨BT,k9⟩:=xE (BR+t);obtain ⟨a2,c2,w9,r9,i9,k6⟩:=oG wr w.heap.size (.slice a K c) X (Fy BT) d8 AT hO om HB.size;obtain ⟨PP,f5⟩:=xE (AY (BT:Nat) 6 An);rw [show AY (Fy BT).num (Fy BT).perm (Fy BT).bytes=PP from f5.symm] at r9;obtain ⟨K1,h7⟩:=xE (X.length+1);rw [<-h7] at r9 i9;obtain ⟨ip,j9,l9,l3,n7⟩:=DX Jo;have HP:=AC (xi j9 (xi l9 l3));have i6:=AC (show PP.length=258 from by rw [f5,Ac,AT]);have n9:Hid (∀w',(Instr.build 136 #[(0,iV (BT:Nat)),(1,iV 6)]).run prog w'= .ok (.agg PP.toArray) w'):=λw'=>by rw [f5];exact NJ _ w'
       have o4:(BR:Int)+(t:Int)=(BT:Int):=om;obtain ⟨T1,j2⟩:=xE (t+1);have p2:(t:Int)+1=(T1:Int):=om
       have n3:=AC (show K1=(DE PS++EK BR T1).length/\w9.ownsRow w.heap.size 136 258 (.slice a2 K1 c2) (DE PS++EK BR T1).length (As (DE PS++EK BR T1)) from by
        rw [j2,KF,<-xu,<-hX,<-k9]
        exact ⟨by simp [h7],i9⟩)
       have n0:=AC (HB.trans k6);have d2:=AC j2;clear hK hO d8 k3 hX k9 f5 j9 l9 l3 n7 i9 k6 j2 h7 HO HB
       go_wp2_with (first
        |(refine E8 rfl 136 #[(0,.tmp 83),(1,.const (.int .i64 6))] rfl #[(0,.int .i64 (BT:Nat)),(1,.int .i64 6)] (by simp only [List.map_toArray,ub,List.map_nil];rfl) (.agg PP.toArray) (AB n9) ?_)
        |(refine Dk rfl 75 136 _ rfl PP (by rfl) ip _ underlying75 HP.1 HP.2.1 (by rw [HP.2.2,AB i6]) (by rw [AB i6];omega) (by rw [AB i6];omega) ?_)
        |(at_builtin;refine Ar rfl _ _ _ (by rfl) _ _ _ _ (by rfl) (by rfl) r9 ?_))
       exact ⟨⟨T1,K1,a2,c2,o1 (AB d2),rfl,rfl,n3,n0⟩,by have:=AB d2;simp only [intOf];omega⟩
      ·have t1:¬(t:Int)<(m:Int):=om;obtain rfl:t=m:=om;obtain ⟨hx,I,D,E,O,hF⟩:=AB HX;obtain ⟨a6,e2,J⟩:=AB i4;have c8:=AB HB;have h6:=AB h9
       obtain ⟨a3,c3,f8,b5,H,d5⟩:=jg wr w.heap.size (.slice a K c) X xa xg xc lb PS d8 a6 hO om om om om c8.size (λh0=>by
        obtain ⟨g1,g2,g3,g4⟩:=AB i3 om
        exact ⟨g1,g4.below c8⟩)
       have a7:X++PS.drop lb=Cp PS BR t:=by rw [hX,e2,xu];rfl
       rw [a7] at H b5;rw [<-E] at b5;obtain ⟨K3,a9⟩:=xE ((Cp PS BR t).length);rw [<-a9] at b5 H;have b0:=Sh xa xc j lb J b7 wr
       have b3:wr.cell? (xK gp (i*31+22))=some (.slice xa j xc):=by
        rw [f2.1,f2.2.1,E,D];exact (k7.below c8).cell hx (by unfold rpc Au;rfl)
       have B:=c8.trans d5;have a0:=k7.below B
       have n5:f8.cell? (xK gp (i*31+22))=some (.slice xa j xc):=by
        rw [f2.1,f2.2.1,E,D];exact a0.cell hx (by unfold rpc Au;rfl)
       have n6:=a0.own.frozenAt (i*31+22);obtain ⟨FA,k0⟩:=xE (RY xa xc lb);obtain ⟨n1,d3⟩:=xE (j-lb);obtain ⟨n2,f0⟩:=xE (xc-lb);rw [<-k0,<-d3,<-f0] at b5 b0;obtain ⟨f6,Y⟩:=xE (f8.setCell (xK gp (i*31+22)) (.slice a3 K3 c3));obtain ⟨BZ,i1⟩:∃BZ:Int,BZ=(BR:Nat)*256:=⟨_,rfl⟩
       have G:=AC (show Gc base gp cp lf L i x (t:Nat) w (.returned (.tuple #[iV BZ,iV 0])) f6 from by
        obtain ⟨z1,z2,z3,z4⟩:=AB j3;have y3:=tr z3.symm;have y4:=tr z4.symm;have b2:=AB m1;rw [D] at b2;have U:(KL x.1 (t:Nat)).PS=Cp PS BR t:=by unfold KL;rw [b2,D,Int.toNat_natCast]
        have a8:f8.grownBy f6 (some gp):=by rw [Y];exact AI (zj f8 (some gp)) _ _
        refine .inr (.inr ⟨om,by rw [<-hF];omega,by rw [<-b2];omega,by rw [<-b2,i1],?_⟩)
        have k5:K3<=c3:=by
         rcases H.2 with ⟨h1,h2⟩|⟨g',cap',o5,h1,_,_,h2,_⟩
         ·omega
         ·injection h1 with _ _ h3;omega
        have d4:∀pg:Nat,f6.ownsRow base 78 31 (sL gp 0 L.length cp) L.length (Ai (L.set i (KL x.1 (t:Nat),⟨a3,pg,c3⟩))):=λpg=>by
         have h1:=a0.own;rw [GJ] at h1;have h2:=(Di h1 (Uy L) i 22 dz (.slice a3 K3 c3)).1
         rw [Ly (y:=(KL x.1 (t:Nat),⟨a3,pg,c3⟩)) hx (by
          show (rpc x).set 22 _=Au _ _ _ _ _ _ _ (.slice a3 (KL x.1 (t:Nat)).PS.length c3) _;rw [U,<-a9]
          rfl),<-GJ] at h2
         rw [Y];exact h2
        have a4:w.grownBy f6 (some gp):=⟨a8.os.trans B.os,a8.tape.trans B.tape,a8.output.trans B.output,o2 a8.size B.size,λb hb hn=>by rw [a8.block b (o1 B.size) hn,B.block b hb]⟩;by_cases h0:0<K3
        ·obtain ⟨pg,pc,he,h2,h3⟩:=H.form h0;injection he with ea en ec;subst ea;have d7:=H.lt pg rfl;have m3:pg≠gp:=om;have l7:=a8.block pg d7.2 (sU m3);refine ⟨⟨some (xK pg 0),pg,c3⟩,d4 pg,by rw [U,<-a9];exact k5,λ_=>⟨rfl,d7.1,by have:=a8.size;show pg<_;omega,?_,λi=>E9 (H.frozenAt i) l7⟩,a4⟩;rw [U];refine GX ?_ l7;rw [a9] at H
         exact UG (λp hp=>by
          rw [<-a7] at hp;rcases vo.1 hp with hp|hp
          ·exact d8 p hp
          ·exact a6 p (rq hp)) H
        ·exact ⟨⟨a3,0,c3⟩,d4 0,by rw [U,<-a9];exact k5,λh=>by rw [U,<-a9] at h;exact absurd h h0,a4⟩)
       have d1:=AC Y;have m6:0<=BZ:=om;have m5:BZ<=65024:=om;have o3:(BR:Int)*256=BZ:=i1.symm;clear hx I D E O hF a6 e2 J c8 h6 H d5 a7 a9 B a0 k0 d3 f0 Y i1 hK hO d8 k3 hX HO HB
       go_upto_region 22 with (first
        |(refine KJ rfl _ _ _ _ _ (by rfl) _ _ _ _ (by rfl) (by rfl) (by rfl) (by rfl) _ b0 ?_)
        |(at_builtin;refine Ar rfl _ _ _ (by rfl) _ _ _ _ (by rfl) (by rfl) b5 ?_))
       rw [<-AB d1];clear b0 b5 b3 n5 n6 d1;go_wp2;rw [AB HQ];exact AB G
def Rb (PS:List Pg) (addr B:Int):Cf PS addr 0 B=true:=by unfold Cf;rw [vu rfl]
def Ov {addr n B:Int} (h:Cf PS addr n B=true) (h0:0<=addr) (hn:1<=n):0<PS.length:=by
 obtain ⟨_,D⟩:=UJ h0 hn h
 cases PS with
 |cons a r=>simp
 |nil=>
  have:=D 0 om om;simp [Ed] at this
def fI (w:World):cT 101 #[v,uV addr,iV 0] w λe w'=>e= .returned sN/\w'=w:=by
 go_enter func101,ntmps101;go_wp2
 go_loopw [7,8] (λv i wr=>v= sN/\i= iV 0/\wr=w) (λ_ _ _=>0)
 case atStart=>exact ⟨rfl,rfl,rfl⟩
 case round=>
  obtain ⟨rfl,rfl,rfl⟩:=hrel;go_wp2;go_ret;exact ⟨rfl,rfl⟩
def fJ (a:Option Addr) (c:Nat) (w:World):cT 146 #[v,uV addr,.slice a 0 c] w λe w'=>e= .returned (.tuple #[])/\w'=w:=by
 go_enter func146,ntmps146;go_wp2
 go_loopw [6] (λi wr=>i= iV 0/\wr=w) (λ_ _=>0)
 case atStart=>exact ⟨rfl,rfl⟩
 case round=>
  obtain ⟨rfl,rfl⟩:=hrel;go_wp2;go_end0;exact ⟨rfl,rfl⟩
def Zn:eN 101:=enters_of func101 kf rfl
def Zo:eN 146:=enters_of func146 kf rfl
def GK (PS:List Pg) (ca cn:Int) (w:World) (e:Ending) (w':World):Prop:=
 (¬(0<=cn/\cn<=4096)/\e= .returned (.tuple #[iV 0,iV 0,sN,iV 6])/\Bw w w')\/
 ((0<=cn/\cn<=4096)/\Cf PS (IntKind.u64.wrap ca) cn 4=false/\e= .returned (.tuple #[iV 0,iV 0,sN,iV 7])/\Bw w w')\/
 ((0<=cn/\cn<=4096)/\Cf PS (IntKind.u64.wrap ca) cn 4=true/\∃v,e= .returned (.tuple #[iV cn,iV 0,v,iV 0])/\w'.ownsRow w.heap.size 5 1 v cn.toNat (AF (BG PS (IntKind.u64.wrap ca) cn.toNat))/\Bw w w')
def Zp (base gp cp:Nat) (L:List (AP×RL)) (i:Nat) (x:AP×RL) (c0:Value) (ca cn:Int) (c3 c4 c5:Value) (w:World) (h:RPs w base gp cp L) (hx:L[i]? =some x) (d0:Bc x.1.PS) (d1:∀q∈x.1.PS,AK q.bytes) (d8:x.1.PS.length<=900):
  cT 96 #[qP kb 0,qP gp (i*31),.agg #[c0,iV ca,iV cn,c3,c4,c5]] w (GK x.1.PS ca cn w):=by
 obtain ⟨W1,a9⟩:=xE (w.alloc (Obj.cells #[c0,iV ca,iV cn,c3,c4,c5] 144));have a5:Bw w W1:=by rw [a9];exact bA
 have a6:AE W1 w.heap.size 144 [c0,iV ca,iV cn,c3,c4,c5]:=by rw [a9];exact AE.new w 144 _
 obtain ⟨CB,b3⟩:=xE w.heap.size;rw [<-b3] at a6;have c9:=h.below a5;obtain ⟨PS,J⟩:=xE x.1.PS;obtain ⟨np,a7⟩:=xE PS.length;obtain ⟨xa,b7⟩:=xE x.2.aa;obtain ⟨xc,d5⟩:=xE x.2.ca;obtain ⟨xg,c7⟩:=xE x.2.ga
 have b6:W1.cell? (xK gp (i*31+22))=some (.slice xa np xc):=by
  rw [b7,d5,a7,J];exact c9.cell hx (by unfold rpc Au;rfl)
 have a1:cE W1 CB 1 (iV ca):=a6.cell rfl;have a2:cE W1 CB 2 (iV cn):=a6.cell rfl
 have a3:0<PS.length->xa=some (xK xg 0)/\xg<w.heap.size/\Bs w xg PS:=λh0=>by
  obtain ⟨g1,g2,g3,g4,g5⟩:=h.pages x (zv hx) (by rw [<-J];exact h0);rw [b7,c7,J];exact ⟨g1,g2,g4⟩
 have b9:∀W,Bw w W->Bs W xg PS:=λW hW=>by
  by_cases h0:0<PS.length
  ·exact (a3 h0).2.2.below hW
  ·have:PS=[]:=uz om;rw [this];intro i p hp;cases hp
 obtain ⟨AD,b2⟩:=xE (IntKind.u64.wrap ca);have E:0<=AD/\AD<=18446744073709551615:=by rw [b2,yh];omega
 obtain ⟨qm,X⟩:=xE (Cf PS AD cn 4);obtain ⟨W2,a8⟩:=xE W1.drew;have b8:Bw w W2:=by rw [a8];exact a5.trans ((show Bw W1 W1.drew from (zw _ _).drew).mono a5.size)
 have d4:W2.heap=W1.heap:=by rw [a8];rfl
 have O:(0<=cn/\cn<=4096)->cT 43 #[.slice xa np xc,uV AD,iV cn,iV 4] W2 λe w'=>e= .returned (.bool qm)/\w'.heap=W2.heap/\Bw W2 w':=λhn=>by
  by_cases hz:cn=0
  ·subst hz;rw [X,Rb];exact Vs _ _ _ _
  ·rw [X,a7];exact bQ xa xg xc PS AD cn 4 W2 (λh0=>(a3 h0).1) (b9 W2 b8) (by rw [J];omega) E.1 E.2 om om
 have H:(0<=cn/\cn<=4096)->qm=true->∀W,Bw w W->cT 101 #[.slice xa np xc,uV AD,iV cn] W λe w'=>∃v,e= .returned v/\w'.ownsRow W.heap.size 5 1 v cn.toNat (AF (BG PS AD cn.toNat))/\Bw W w':=λhn hq W hW=>by
  by_cases hz:cn=0
  ·subst hz;refine (fI _ _ _).mono ?_;rintro e w' ⟨rfl,hw⟩;subst hw;exact ⟨_,rfl,uy _ _ _ _,zw _ _⟩
  ·have hp:=Ov (X.symm.trans hq) E.1 om;have:=iI xa xg xc PS AD 4 cn.toNat W (λh0=>(a3 h0).1) (b9 W hW) (o2 (a3 hp).2.1 hW.size) (by rw [J];omega) (λq hq=>by rw [J] at hq;exact ⟨(d0.each q hq).2.2.2.2,d1 q hq⟩) E.1 om (by rw [Int.toNat_of_nonneg om];exact X.symm.trans hq);rw [Int.toNat_of_nonneg om,<-a7] at this;exact this
 obtain ⟨QQ,c6⟩:=xE (GK PS ca cn w);rw [<-J,<-c6];obtain ⟨HQ,O,H,f0,d7⟩:=H5 c6 O H a9 b3;have b0:=AC (xi a5 (xi b8 d4));have d6:=AC a8;have Z:=AC (xi b2 X);have d9:Hid (gp<w.heap.size):=h.lt.2;have f1:Hid (CB<W1.heap.size):=a6.lt;clear a9 a5 a6 c9 J a7 b7 d5 c7 a3 b9 b2 E X b8 d4 c6 h hx d0 d1 d8 b3 a8;go_enter func96,ntmps96
 go_upto_region 1 with fail
 rw [<-AB f0,<-AB d7];by_cases f3:cn<0
 ·have B:=AC (show GK PS ca cn w (.returned (.tuple #[iV 0,iV 0,sN,iV 6])) W1 from .inl ⟨om,rfl,b0.1⟩);go_wp2;refine xh (v:= .tuple #[iV 0,iV 0,sN,iV 6]) (by simp [results,results96,go_sem]) rfl ?_;rw [AB HQ];exact AB B
 by_cases f2:cn>4096
 ·have B:=AC (show GK PS ca cn w (.returned (.tuple #[iV 0,iV 0,sN,iV 6])) W1 from .inl ⟨om,rfl,b0.1⟩);go_wp2;refine xh (v:= .tuple #[iV 0,iV 0,sN,iV 6]) (by simp [results,results96,go_sem]) rfl ?_;rw [AB HQ];exact AB B
 go_upto_region 3 with fail
 have b1:0<=cn/\cn<=4096:=⟨om,om⟩;have O:=AC (AB O b1);have H:=AC (AB H b1);rw [AB d6] at O;have d2:=AC (show W1.drew.cell? (xK gp (i*31+22))=some (.slice xa np xc)/\W1.drew.cell? (xK CB 1)=some (iV ca)/\W1.drew.cell? (xK CB 2)=some (iV cn) from ⟨b6,a1,a2⟩);have R2:Hid (∀w':World,(convert 3 73 (iV ca)).run prog w'= .ok (uV AD) w'):=λw'=>by rw [Z.1];exact Mx ca w'
 have D:∀w9:World,w9.heap=W1.heap->∀a,w9.cell? a=W1.cell? a:=λw9 e a=>by unfold World.cell?;rw [e]
 have c1:Hid (∀w9:World,(w9.heap=W1.drew.heap/\Below W1.drew.heap.size W1.drew w9)->w9.cell? (xK gp (i*31+22))=some (.slice xa np xc)/\w9.cell? (xK CB 1)=some (iV ca)/\w9.cell? (xK CB 2)=some (iV cn)):=λw9 e=>⟨by rw [D w9 e.1];exact b6,by rw [D w9 e.1];exact a1,by rw [D w9 e.1];exact a2⟩;clear D;refine Ak ?_;intro A hA;have e1:A.eval (.tmp 1)= qP gp (i*31):=eH hA;have e5:A.eval (.tmp 5)= qP CB 0:=eH hA;have c2:A.tmps.size=45:=eZ hA;have HA:=AC hA;clear hA;refine xf (S:=λw'=>w'.cell? (xK gp (i*31+22))=some (.slice xa np xc)/\w'.cell? (xK CB 1)=some (iV ca)/\w'.cell? (xK CB 2)=some (iV cn)) kf d2 (λhS=> ?_);refine tq 0 20 rfl (yM (qP gp (i*31))) hS (tq 1 21 rfl (yN (xK gp (i*31))) hS (tq 2 22 rfl (yF (qP gp (i*31)) (qP gp (i*31+22))) hS ?_))
 refine tq 3 23 rfl (yl (λw' h=>KG h.1)) hS (tq 4 24 rfl (yF (qP CB 0) (qP CB 1)) hS (tq 5 25 rfl (yl (λw' h=>CG h.2.1)) hS (tq 6 26 rfl (Ex rfl _ _ _ rfl (iV ca) sE (uV AD) R2) hS (tq 7 27 rfl (yF (qP CB 0) (qP CB 2)) hS (tq 8 28 rfl (yl (λw' h=>CG h.2.2)) hS ?_)))));refine rdy [9] kf (vq rfl (λK hK=> ?_) vr);refine Bn rfl 43 _ _ rfl #[.slice xa np xc,uV AD,iV cn,iV 4] sE mayEnter _ (λe w' h=>⟨_,h.1⟩) O (some 29) rfl ?_;rintro r9 w9 ⟨G,F⟩;have G:r9= .bool qm:=by injection G
 subst G;refine hK.out _ _ (AB c1 w9 F) (λV=> ?_);clear hK K;refine tq 10 10 rfl (yA (.bool qm)) V ?_;refine vg kf ?_ _;rw [AB HA];simp only [Act.put,zl,zh,zi];have Y:Bw w w9:=b0.1.trans (((show Bw W1 W1.drew from (zw _ _).drew).trans F.2).mono b0.1.size);clear G hS V HA e1 e5 c2 A d2 O b6 a1 a2
 cases qm with
 |false=>
  have B:=AC (show GK PS ca cn w (.returned (.tuple #[iV 0,iV 0,sN,iV 7])) w9 from .inr (.inl ⟨b1,by rw [<-Z.1];exact Z.2.symm,rfl,Y⟩));clear Y F;go_wp2;refine xh (v:= .tuple #[iV 0,iV 0,sN,iV 7]) (by simp [results,results96,go_sem]) rfl ?_;rw [AB HQ]
  exact AB B
 |true=>
  have U:Bw w w9.drew:=Y.trans ((show Bw w9 w9.drew from (zw _ _).drew).mono Y.size);have H:=AC (AB H rfl w9.drew U);have b5:Hid (w9.drew.cell? (xK gp (i*31+22))=some (.slice xa np xc)/\w9.drew.cell? (xK CB 1)=some (iV ca)/\w9.drew.cell? (xK CB 2)=some (iV cn)):=AB c1 w9 F;have a0:gp<w9.drew.heap.size:=by show gp<w9.heap.size;have:=AB d9;have:=Y.size;omega
  have N:CB<w9.drew.heap.size:=by show CB<w9.heap.size;rw [F.1];exact AB f1
  have c8:=AC (show ∀I:World,Below w9.drew.heap.size w9.drew I->I.cell? (xK gp (i*31+22))=some (.slice xa np xc)/\I.cell? (xK CB 1)=some (iV ca)/\I.cell? (xK CB 2)=some (iV cn) from λI hb=>by
   obtain ⟨s1,s2,s3⟩:=AB b5
   exact ⟨by rw [hb.cell (p:=(xK gp (i*31+22))) a0];exact s1,by rw [hb.cell (p:=(xK CB 1)) N];exact s2,by rw [hb.cell (p:=(xK CB 2)) N];exact s3⟩)
  have b4:=AC U;clear Y U F c1 a0 N
  go_upto_region 6 with fail
  refine Ak ?_;intro A hA;have e1:A.eval (.tmp 1)= qP gp (i*31):=eH hA;have e5:A.eval (.tmp 5)= qP CB 0:=eH hA;have c2:A.tmps.size=45:=eZ hA;have HA:=AC hA;clear hA;refine xf (S:=λw'=>w'.cell? (xK gp (i*31+22))=some (.slice xa np xc)/\w'.cell? (xK CB 1)=some (iV ca)/\w'.cell? (xK CB 2)=some (iV cn)) kf b5 (λhS=> ?_);refine tq 0 32 rfl (yM (qP gp (i*31))) hS (tq 1 33 rfl (yN (xK gp (i*31))) hS (tq 2 34 rfl (yF (qP gp (i*31)) (qP gp (i*31+22))) hS (tq 3 35 rfl (yl (λw' h=>KG h.1)) hS (tq 4 36 rfl (yF (qP CB 0) (qP CB 1)) hS (tq 5 37 rfl (yl (λw' h=>CG h.2.1)) hS ?_)))));refine tq 6 38 rfl (Ex rfl _ _ _ rfl (iV ca) sE (uV AD) R2) hS ?_
  refine tq 7 39 rfl (yF (qP CB 0) (qP CB 2)) hS (tq 8 40 rfl (yl (λw' h=>CG h.2.2)) hS ?_);refine rdy [9] kf (vq rfl (λK hK=> ?_) vr);refine Bn rfl 101 _ _ rfl #[.slice xa np xc,uV AD,iV cn] sE Zn _ (λe w' h=>by obtain ⟨v,h1,_⟩:=h;exact ⟨v,h1⟩) H (some 41) rfl ?_;rintro r9 I ⟨v9,G,F⟩;have G:r9=v9:=by injection G
  subst G;refine hK.out _ _ (AB c8 I F.2) (λV=> ?_);clear hK K;refine tq 10 11 rfl (yA (r9)) V ?_;refine vg kf ?_ _;rw [AB HA];simp only [Act.put,zl,zh,zi];obtain ⟨ho,a4⟩:=F;have a2:=V.2.2;obtain ⟨va,vc,rfl, -, -⟩:=Ip ho;have B:=AC (show GK PS ca cn w (.returned (.tuple #[iV cn,iV 0,.slice va cn.toNat vc,iV 0])) I from .inr (.inr ⟨b1,by rw [<-Z.1];exact Z.2.symm,_,rfl,by rw [<-Z.1];exact Km ho b4.size,b4.trans (a4.mono b4.size)⟩));obtain ⟨cv,d3⟩:=xE cn.toNat;rw [<-d3] at B ⊢;clear G hS V HA e1 e5 c2 A b5 c8 H ho a4 d3;go_wp2;refine xh (v:= .tuple #[iV cn,iV 0,.slice va cv vc,iV 0]) (by simp [results,results96,go_sem]) rfl ?_;rw [AB HQ];exact AB B
def G8 (PS:List Pg) (xg:Nat) (ca:Int) (B:List Int) (w:World) (e:Ending) (w':World):Prop:=
 (4096<B.length/\e= .returned (.tuple #[iV 0,iV 6])/\Bw w w')\/
 (B.length<=4096/\Cf PS (IntKind.u64.wrap ca) (B.length:Int) 2=false/\e= .returned (.tuple #[iV 0,iV 7])/\Bw w w')\/
 (B.length<=4096/\Cf PS (IntKind.u64.wrap ca) (B.length:Int) 2=true/\e= .returned (.tuple #[iV (B.length:Nat),iV 0])/\(0<PS.length->Bs w' xg (CF PS (IntKind.u64.wrap ca) B B.length)/\∀i,w'.frozen? (xK xg i)=false)/\w.grownBy w' (some xg))
def Zq (base gp cp:Nat) (L:List (AP×RL)) (i:Nat) (x:AP×RL) (c0:Value) (ca:Int) (c2 c3 c4:Value) (da:Option Addr) (bb bo dc:Nat) (B:List Int) (w:World) (h:RPs w base gp cp L) (hx:L[i]? =some x) (d0:Bc x.1.PS) (f4:x.1.PS.length<=900) (hB:B.length<=1000000) (d8:0<B.length->da=some (xK bb bo)/\bb<w.heap.size/\Am w bb bo B) (d4:0<B.length->0<x.1.PS.length->bb≠x.2.ga):
  cT 97 #[qP kb 0,qP gp (i*31),.agg #[c0,iV ca,c2,c3,c4,.slice da B.length dc]] w (G8 x.1.PS x.2.ga ca B w):=by
 obtain ⟨nb,a3⟩:=xE B.length;obtain ⟨W1,b1⟩:=xE (w.alloc (Obj.cells #[c0,iV ca,c2,c3,c4,.slice da nb dc] 144));have a7:Bw w W1:=by rw [b1];exact bA
 have a8:AE W1 w.heap.size 144 [c0,iV ca,c2,c3,c4,.slice da nb dc]:=by rw [b1];exact AE.new w 144 _
 obtain ⟨CB,b4⟩:=xE w.heap.size;rw [<-b4] at a8;have c9:=h.below a7;obtain ⟨PS,N⟩:=xE x.1.PS;obtain ⟨np,b0⟩:=xE PS.length;obtain ⟨xa,b7⟩:=xE x.2.aa;obtain ⟨xc,d9⟩:=xE x.2.ca;obtain ⟨xg,a9⟩:=xE x.2.ga
 have b6:W1.cell? (xK gp (i*31+22))=some (.slice xa np xc):=by
  rw [b7,d9,b0,N];exact c9.cell hx (by unfold rpc Au;rfl)
 have a1:cE W1 CB 1 (iV ca):=a8.cell rfl;have a5:cE W1 CB 5 (.slice da nb dc):=a8.cell rfl
 have U:0<PS.length->xa=some (xK xg 0)/\xg<w.heap.size/\xg≠gp/\Bs w xg PS/\∀i,w.frozen? (xK xg i)=false:=λh0=>by
  obtain ⟨g1,g2,g3,g4,g5⟩:=h.pages x (zv hx) (by rw [<-N];exact h0);rw [b7,a9,N];exact ⟨g1,g2,g3,g4,g5⟩
 have b2:∀W,Bw w W->Bs W xg PS:=λW hW=>by
  by_cases h0:0<PS.length
  ·exact (U h0).2.2.2.1.below hW
  ·have:PS=[]:=uz om;rw [this];intro i p hp;cases hp
 have b8:0<PS.length->∀W,Bw w W->∀i,W.frozen? (xK xg i)=false:=λh0 W hW i=>E9 ((U h0).2.2.2.2 i) (hW.block xg (U h0).2.1);obtain ⟨AD,b3⟩:=xE (IntKind.u64.wrap ca);have G:0<=AD/\AD<=18446744073709551615:=by rw [b3,yh];omega
 obtain ⟨qm,X⟩:=xE (Cf PS AD (nb:Nat) 2);obtain ⟨W2,b9⟩:=xE W1.drew;have d6:Bw w W2:=by rw [b9];exact a7.trans ((show Bw W1 W1.drew from (zw _ _).drew).mono a7.size)
 have a6:cT 43 #[.slice xa np xc,uV AD,iV (nb:Nat),iV 2] W2 λe w'=>e= .returned (.bool qm)/\w'.heap=W2.heap/\Bw W2 w':=by
  by_cases hz:nb=0
  ·rw [X,hz];rw [show ((0:Nat):Int)=0 from rfl,Rb];exact Vs _ _ _ _
  ·rw [X,b0];exact bQ xa xg xc PS AD (nb:Nat) 2 W2 (λh0=>(U h0).1) (b2 W2 d6) (by rw [N];omega) G.1 G.2 om om
 have f2:=h.lt.2
 have Z:qm=true->∀W,Bw w W->CB<W.heap.size->cT 146 #[.slice xa np xc,uV AD,.slice da nb dc] W λe w'=>e= .returned (.tuple #[])/\(∀b,b=gp\/b=CB->w'.heap[b]? =W.heap[b]?)/\(0<PS.length->Bs w' xg (CF PS AD B nb)/\∀i,w'.frozen? (xK xg i)=false)/\W.grownBy w' (some xg):=λhq W hW g0=>by
  by_cases hz:nb=0
  ·rw [hz];refine (fJ _ _ _ _ _).mono ?_;rintro e w' ⟨rfl,hw⟩;subst hw;exact ⟨rfl,λ_ _=>rfl,λh0=>⟨b2 _ hW,b8 h0 _ hW⟩,zj _ _⟩
  ·have hp:=Ov (X.symm.trans hq) G.1 om;obtain ⟨d1,d2,d3⟩:=d8 om;have f0:bb≠xg:=by rw [a9];exact d4 om (by rw [<-N];exact hp)
   have:=iJ xa xg xc bb bo dc PS AD 2 B W (λh0=>(U h0).1) (b2 W hW) (b8 hp W hW) (by rw [N];omega) (λq hq=>by rw [N] at hq;exact (d0.each q hq).2.2.2.2) G.1 om (by rw [<-a3];exact X.symm.trans hq) (d3.below hW d2) f0 (o1 hW.size);unfold sL at this;rw [<-a3,<-b0,<-d1] at this;refine this.mono ?_;rintro e w' ⟨g1,g2,g3,g4⟩
   exact ⟨g1,λb hb=>g4.block b (by have:=hW.size;rcases hb with rfl|rfl<;>omega) (by
    have h1:=(U hp).2.1;have h2:=(U hp).2.2.1;rcases hb with rfl|rfl
    ·simpa using h2.symm
    ·simp;omega),λ_=>⟨g2,g3⟩,g4⟩
 obtain ⟨QQ,c7⟩:=xE (G8 PS xg ca B w);rw [<-N,<-a9,<-a3,<-c7];obtain ⟨HQ,a6,Z,f5,f3,c1,f1⟩:=H7 c7 a6 Z b1 b4 a7 b9;have F:=AC (xi b3 (xi X a3));have f7:Hid (CB<W1.heap.size):=a8.lt;have f9:nb<=1000000:=om;clear b1 a7 a8 c9 N b0 b7 d9 a9 U b2 b8 b3 G X d6 c7 h hx d0 f4 b4 b9 hB d8 d4 a3 f2;go_enter func97,ntmps97
 go_upto_region 1 with fail
 rw [<-AB f5,<-AB f3];by_cases f8:(nb:Int)>4096
 ·have H:=AC (show G8 PS xg ca B w (.returned (.tuple #[iV 0,iV 6])) W1 from .inl ⟨o1 F.2.2,rfl,AB c1⟩);go_wp2;rw [AB HQ];exact AB H
 go_upto_region 3 with fail
 rw [AB f1] at a6;have d5:=AC (show W1.drew.cell? (xK gp (i*31+22))=some (.slice xa np xc)/\W1.drew.cell? (xK CB 1)=some (iV ca)/\W1.drew.cell? (xK CB 5)=some (.slice da nb dc) from ⟨b6,a1,a5⟩);have R2:Hid (∀w':World,(convert 3 73 (iV ca)).run prog w'= .ok (uV AD) w'):=λw'=>by rw [F.1];exact Mx ca w'
 have D:∀w9:World,w9.heap=W1.heap->∀a,w9.cell? a=W1.cell? a:=λw9 e a=>by unfold World.cell?;rw [e]
 have c5:Hid (∀w9:World,(w9.heap=W1.drew.heap/\Below W1.drew.heap.size W1.drew w9)->w9.cell? (xK gp (i*31+22))=some (.slice xa np xc)/\w9.cell? (xK CB 1)=some (iV ca)/\w9.cell? (xK CB 5)=some (.slice da nb dc)):=λw9 e=>⟨by rw [D w9 e.1];exact b6,by rw [D w9 e.1];exact a1,by rw [D w9 e.1];exact a5⟩;clear D;refine Ak ?_;intro A hA;have e1:A.eval (.tmp 1)= qP gp (i*31):=eH hA;have e5:A.eval (.tmp 5)= qP CB 0:=eH hA;have c6:A.tmps.size=39:=eZ hA;have HA:=AC hA;clear hA;refine xf (S:=λw'=>w'.cell? (xK gp (i*31+22))=some (.slice xa np xc)/\w'.cell? (xK CB 1)=some (iV ca)/\w'.cell? (xK CB 5)=some (.slice da nb dc)) kf d5 (λhS=> ?_);refine tq 0 13 rfl (yM (qP gp (i*31))) hS (tq 1 14 rfl (yN (xK gp (i*31))) hS ?_)
 refine tq 2 15 rfl (yF (qP gp (i*31)) (qP gp (i*31+22))) hS (tq 3 16 rfl (yl (λw' h=>KG h.1)) hS (tq 4 17 rfl (yF (qP CB 0) (qP CB 1)) hS (tq 5 18 rfl (yl (λw' h=>CG h.2.1)) hS (tq 6 19 rfl (Ex rfl _ _ _ rfl (iV ca) sE (uV AD) R2) hS (tq 7 20 rfl (yF (qP CB 0) (qP CB 5)) hS ?_)))));refine tq 8 21 rfl (yl (λw' h=>L4 h.2.2)) hS (tq 9 22 rfl (Do rfl _ _ rfl (.slice da nb dc) sE (iV (nb:Nat)) (λw' _=>gS)) hS ?_);refine rdy [10] kf (vq rfl (λK hK=> ?_) vr);refine Bn rfl 43 _ _ rfl #[.slice xa np xc,uV AD,iV (nb:Nat),iV 2] sE mayEnter _ (λe w' h=>⟨_,h.1⟩) a6 (some 23) rfl ?_;rintro r9 w9 ⟨O,J⟩;have O:r9= .bool qm:=by injection O
 subst O;refine hK.out _ _ (AB c5 w9 J) (λa0=> ?_);clear hK K;refine tq 11 8 rfl (yA (.bool qm)) a0 ?_;refine vg kf ?_ _;rw [AB HA];simp only [Act.put,zl,zh,zi];have a2:Bw w w9:=c1.trans (((show Bw W1 W1.drew from (zw _ _).drew).trans J.2).mono c1.size);clear O hS a0 HA e1 e5 c6 A d5 a6 b6 a1 a5
 cases qm with
 |false=>
  have H:=AC (show G8 PS xg ca B w (.returned (.tuple #[iV 0,iV 7])) w9 from .inr (.inl ⟨o1 F.2.2,by rw [<-F.1,<-F.2.2];exact F.2.1.symm,rfl,a2⟩));clear a2 J;go_wp2;rw [AB HQ]
  exact AB H
 |true=>
  have V:Bw w w9.drew:=a2.trans ((show Bw w9 w9.drew from (zw _ _).drew).mono a2.size);have a4:CB<w9.drew.heap.size:=by show CB<w9.heap.size;rw [J.1];exact AB f7
  have Z:=AC (AB Z rfl w9.drew V a4);have b5:Hid (w9.drew.cell? (xK gp (i*31+22))=some (.slice xa np xc)/\w9.drew.cell? (xK CB 1)=some (iV ca)/\w9.drew.cell? (xK CB 5)=some (.slice da nb dc)):=AB c5 w9 J
  have c8:=AC (show ∀I:World,((∀b,b=gp\/b=CB->I.heap[b]? =w9.drew.heap[b]?)/\(0<PS.length->Bs I xg (CF PS AD B nb)/\∀i,I.frozen? (xK xg i)=false)/\w9.drew.grownBy I (some xg))->I.cell? (xK gp (i*31+22))=some (.slice xa np xc)/\I.cell? (xK CB 1)=some (iV ca)/\I.cell? (xK CB 5)=some (.slice da nb dc) from λI hb=>by
   obtain ⟨s1,s2,s3⟩:=AB b5;have e1:=hb.1 gp (.inl rfl);have e2:=hb.1 CB (.inr rfl)
   exact ⟨by rw [<-s1];unfold World.cell?;rw [e1],by rw [<-s2];unfold World.cell?;rw [e2],by rw [<-s3];unfold World.cell?;rw [e2]⟩)
  have Y:=AC V;clear a2 V J c5 a4
  go_upto_region 6 with fail
  refine Ak ?_;intro A hA;have e1:A.eval (.tmp 1)= qP gp (i*31):=eH hA;have e5:A.eval (.tmp 5)= qP CB 0:=eH hA;have c6:A.tmps.size=39:=eZ hA;have HA:=AC hA;clear hA;refine xf (S:=λw'=>w'.cell? (xK gp (i*31+22))=some (.slice xa np xc)/\w'.cell? (xK CB 1)=some (iV ca)/\w'.cell? (xK CB 5)=some (.slice da nb dc)) kf b5 (λhS=> ?_);refine tq 0 26 rfl (yM (qP gp (i*31))) hS (tq 1 27 rfl (yN (xK gp (i*31))) hS (tq 2 28 rfl (yF (qP gp (i*31)) (qP gp (i*31+22))) hS (tq 3 29 rfl (yl (λw' h=>KG h.1)) hS (tq 4 30 rfl (yF (qP CB 0) (qP CB 1)) hS (tq 5 31 rfl (yl (λw' h=>CG h.2.1)) hS ?_)))));refine tq 6 32 rfl (Ex rfl _ _ _ rfl (iV ca) sE (uV AD) R2) hS ?_
  refine tq 7 33 rfl (yF (qP CB 0) (qP CB 5)) hS (tq 8 34 rfl (yl (λw' h=>L4 h.2.2)) hS ?_);refine rdy [9] kf (vq rfl (λK hK=> ?_) vr);refine Bn rfl 146 _ _ rfl #[.slice xa np xc,uV AD,.slice da nb dc] sE Zo _ (λe w' h=>⟨_,h.1⟩) Z (some 35) rfl ?_;rintro r9 I ⟨O,J⟩;have O:r9= .tuple #[]:=by injection O
  subst O;refine hK.out _ _ (AB c8 I J) (λa0=> ?_);clear hK K;refine vg kf ?_ _;rw [AB HA];simp only [Act.put,zl,zh,zi];obtain ⟨f6,d7,E⟩:=J;have a5:=a0.2.2;have H:=AC (show G8 PS xg ca B w (.returned (.tuple #[iV (nb:Nat),iV 0])) I from .inr (.inr ⟨o1 F.2.2,by rw [<-F.1,<-F.2.2];exact F.2.1.symm,by rw [F.2.2],by rw [<-F.1,<-F.2.2];exact d7,⟨E.os.trans Y.os,E.tape.trans Y.tape,E.output.trans Y.output,o2 E.size Y.size,λb hb hn=>by rw [E.block b (o1 Y.size) hn,Y.block b hb]⟩⟩));clear O hS a0 HA e1 e5 c6 A b5 c8 Z f6 d7 E;go_wp2;rw [AB HQ];exact AB H
def Gd (kd a b:Int) (s:ByteArray) (sa:Option Addr) (sn sc:Nat) (da:Option Addr) (nb dc:Nat):Array Value:=#[iV kd,iV a,iV b,.string s,.slice sa sn sc,.slice da nb dc]
def GL (w:World) (kd a b:Int) (s:ByteArray) (sa:Option Addr) (sn sc:Nat) (da:Option Addr) (nb dc:Nat):World:=w.alloc (Obj.cells (Gd kd a b s sa sn sc da nb dc) 144)
def Two (Q:Ending->World->Prop) (e:Ending) (w':World):Prop:=∃v c:Int,e= .returned (.tuple #[iV v,iV 0,sN,iV c])/\Q (.returned (.tuple #[iV v,iV c])) w'
def mF (h:Fs L pid=(i:Nat)):∃x,L[i]? =some x/\x.1.pid=pid:=by
 unfold Fs at h
 cases hf:L.findIdx? (λx=>x.1.pid==pid) with
 |none=>rw [hf] at h;simp at h
 |some j=>
  rw [hf] at h;have:j=i:=by simp at h;omega
  subst this;obtain ⟨hi,he,_⟩:=uo.1 hf;exact ⟨L[j],zz hi,by simpa using he⟩
def Po (base gp cp:Nat) (L:List (AP×RL)) (pid:Int) (i:Nat) (x:AP×RL) (kd a b:Int) (s:ByteArray) (sa:Option Addr) (sn sc:Nat) (da:Option Addr) (nb dc:Nat) (w:World) (h5:cE w kb 5 (sL gp 0 L.length cp)) (h:RPs w base gp cp L) (hn:L.length<=1000) (U:kb<w.heap.size) (hi:Fs L pid=(i:Nat)) (hx:L[i]? =some x) (O:x.1.st=0) (Q:Ending->World->Prop)
  (hQ:∀e w',Q e w'->∃v c:Int,e= .returned (.tuple #[iV v,iV c]))
  (hc:(kd=1/\cT 91 #[qP kb 0,qP gp (i*31)] (GL w kd a b s sa sn sc da nb dc) Q)\/(kd=2/\cT 42 #[qP kb 0,qP gp (i*31),.string s,.slice sa sn sc] (GL w kd a b s sa sn sc da nb dc) Q)\/(kd=17/\cT 95 #[qP kb 0,qP gp (i*31),iV a] (GL w kd a b s sa sn sc da nb dc) Q)\/(kd=19/\cT 97 #[qP kb 0,qP gp (i*31),.agg (Gd kd a b s sa sn sc da nb dc)] (GL w kd a b s sa sn sc da nb dc) Q)):
  cT 49 #[qP kb 0,iV pid,.agg (Gd kd a b s sa sn sc da nb dc)] w (Two Q):=by
 obtain ⟨W1,D⟩:=xE (GL w kd a b s sa sn sc da nb dc);have I:Bw w W1:=by rw [D];exact bA
 have B:AE W1 w.heap.size 144 [iV kd,iV a,iV b,.string s,.slice sa sn sc,.slice da nb dc]:=by rw [D];exact AE.new w 144 _
 obtain ⟨CB,H⟩:=xE w.heap.size;rw [<-H] at B;rw [<-D] at hc;have F:=h.below I;have c5:W1.cell? (xK kb 5)=some (sL gp 0 L.length cp):=by rw [I.cell (p:=(xK kb 5)) U];exact h5
 have HP:=AC (Fi kb base gp cp L pid W1 c5 F hn);rw [hi] at HP;have Z:=(zy.1 hx).1;obtain ⟨N,hN⟩:=xE L.length;rw [<-hN] at c5;have i0:(0:Int)<=(i:Int):=om;have i1:(i:Int)<(N:Int):=om;have x2:W1.cell? (xK gp (i*31+2))=some (iV 0):=by rw [<-O];exact F.cell hx (by unfold rpc Au;rfl)
 have k0:cE W1 CB 0 (iV kd):=B.cell rfl;have k1:cE W1 CB 1 (iV a):=B.cell rfl;have k2:cE W1 CB 2 (iV b):=B.cell rfl;have k3:cE W1 CB 3 (.string s):=B.cell rfl;have k4:cE W1 CB 4 (.slice sa sn sc):=B.cell rfl;have k5:cE W1 CB 5 (.slice da nb dc):=B.cell rfl;obtain ⟨QQ,G⟩:=xE (Two Q);rw [<-G];obtain ⟨HQ,Y,HC⟩:=H3 G hQ hc;unfold GL at D;unfold Gd at D HC ⊢;have V:=AC D;have J:=AC H;clear D I B H hc F h5 h hn U hi hx O hQ G Z hN;go_enter func49,ntmps49
 go_upto_region 1 with fail
 rw [<-AB V,<-AB J];clear V J
 go_wp2_with fail
 refine HP.mono ?_;rintro e w2 ⟨rfl,hw⟩;subst hw
 go_upto_region 10 with fail
 rcases AB HC with ⟨hk,hc⟩|⟨hk,hc⟩|⟨hk,hc⟩|⟨hk,hc⟩
 all_goals (
  subst hk;have X:=AC hc;clear hc HC
  go_wp2_with fail
  refine X.mono ?_;intro e w3 hq;obtain ⟨v,c,rfl⟩:=AB Y e w3 hq;have E:=AC (show Two Q (.returned (.tuple #[iV v,iV 0,sN,iV c])) w3 from ⟨v,c,rfl,hq⟩);clear hq X HP c5 x2 k0 k1 k2 k3 k4 k5;go_wp2;refine xh (v:= .tuple #[iV v,iV 0,sN,iV c]) (by simp [results,results49,go_sem]) rfl ?_;rw [AB HQ]
  exact AB E)
def Xo (base gp cp:Nat) (L:List (AP×RL)) (pid:Int) (i:Nat) (x:AP×RL) (kd a b:Int) (s:ByteArray) (sa:Option Addr) (sn sc:Nat) (da:Option Addr) (nb dc:Nat) (w:World) (h5:cE w kb 5 (sL gp 0 L.length cp)) (h:RPs w base gp cp L) (hn:L.length<=1000) (U:kb<w.heap.size) (hi:Fs L pid=(i:Nat)) (hx:L[i]? =some x) (O:x.1.st=0) (Q:Ending->World->Prop)
  (hQ:∀e w',Q e w'->∃(v c u:Int) (r:Value),e= .returned (.tuple #[iV v,iV u,r,iV c]))
  (hc:(kd=4/\cT 93 #[qP kb 0,iV pid] (GL w kd a b s sa sn sc da nb dc) Q)\/(kd=18/\cT 96 #[qP kb 0,qP gp (i*31),.agg (Gd kd a b s sa sn sc da nb dc)] (GL w kd a b s sa sn sc da nb dc) Q)):
  cT 49 #[qP kb 0,iV pid,.agg (Gd kd a b s sa sn sc da nb dc)] w Q:=by
 obtain ⟨W1,D⟩:=xE (GL w kd a b s sa sn sc da nb dc);have I:Bw w W1:=by rw [D];exact bA
 have B:AE W1 w.heap.size 144 [iV kd,iV a,iV b,.string s,.slice sa sn sc,.slice da nb dc]:=by rw [D];exact AE.new w 144 _
 obtain ⟨CB,H⟩:=xE w.heap.size;rw [<-H] at B;rw [<-D] at hc;have F:=h.below I;have c5:W1.cell? (xK kb 5)=some (sL gp 0 L.length cp):=by rw [I.cell (p:=(xK kb 5)) U];exact h5
 have HP:=AC (Fi kb base gp cp L pid W1 c5 F hn);rw [hi] at HP;have Z:=(zy.1 hx).1;obtain ⟨N,hN⟩:=xE L.length;rw [<-hN] at c5;have i0:(0:Int)<=(i:Int):=om;have i1:(i:Int)<(N:Int):=om;have x2:W1.cell? (xK gp (i*31+2))=some (iV 0):=by rw [<-O];exact F.cell hx (by unfold rpc Au;rfl)
 have k0:cE W1 CB 0 (iV kd):=B.cell rfl;have k1:cE W1 CB 1 (iV a):=B.cell rfl;have k2:cE W1 CB 2 (iV b):=B.cell rfl;have k3:cE W1 CB 3 (.string s):=B.cell rfl;have k4:cE W1 CB 4 (.slice sa sn sc):=B.cell rfl;have k5:cE W1 CB 5 (.slice da nb dc):=B.cell rfl;obtain ⟨QQ,G⟩:=xE Q;rw [<-G];obtain ⟨HQ,Y,HC⟩:=H3 G hQ hc;unfold GL at D;unfold Gd at D HC ⊢;have V:=AC D;have J:=AC H;clear D I B H hc F h5 h hn U hi hx O hQ G Z hN;go_enter func49,ntmps49
 go_upto_region 1 with fail
 rw [<-AB V,<-AB J];clear V J
 go_wp2_with fail
 refine HP.mono ?_;rintro e w2 ⟨rfl,hw⟩;subst hw
 go_upto_region 10 with fail
 rcases AB HC with ⟨hk,hc⟩|⟨hk,hc⟩
 all_goals (
  subst hk;have X:=AC hc;clear hc HC
  go_wp2_with fail
  refine X.mono ?_;intro e w3 hq;obtain ⟨v,c,u,r,rfl⟩:=AB Y e w3 hq;have E:=AC hq;clear hq X HP c5 x2 k0 k1 k2 k3 k4 k5;go_wp2;refine xh (v:= .tuple #[iV v,iV u,r,iV c]) (by simp [results,results49,go_sem]) rfl ?_;rw [AB HQ]
  exact AB E)
def GU (c:Int):Ending:= .returned (.tuple #[iV 0,iV 0,sN,iV c])
def mG (base gp cp:Nat) (L:List (AP×RL)) (pid:Int) (i:Nat) (x:AP×RL) (kd a b:Int) (s:ByteArray) (sa:Option Addr) (sn sc:Nat) (da:Option Addr) (nb dc:Nat) (w:World) (h5:cE w kb 5 (sL gp 0 L.length cp)) (h:RPs w base gp cp L) (hn:L.length<=1000) (J:kb<w.heap.size) (hi:Fs L pid=(i:Nat)) (hx:L[i]? =some x) (U:x.1.st=0) (B:¬(1<=kd/\kd<=21)):
  cT 49 #[qP kb 0,iV pid,.agg (Gd kd a b s sa sn sc da nb dc)] w (λe w'=>e=GU 23/\Bw w w'):=by
 obtain ⟨W1,E⟩:=xE (GL w kd a b s sa sn sc da nb dc);have F:Bw w W1:=by rw [E];exact bA
 have D:AE W1 w.heap.size 144 [iV kd,iV a,iV b,.string s,.slice sa sn sc,.slice da nb dc]:=by rw [E];exact AE.new w 144 _
 obtain ⟨CB,H⟩:=xE w.heap.size;rw [<-H] at D;have G:=h.below F;have c5:W1.cell? (xK kb 5)=some (sL gp 0 L.length cp):=by rw [F.cell (p:=(xK kb 5)) J];exact h5
 have HP:=AC (Fi kb base gp cp L pid W1 c5 G hn);rw [hi] at HP;have Y:=(zy.1 hx).1;obtain ⟨N,hN⟩:=xE L.length;rw [<-hN] at c5;have i0:(0:Int)<=(i:Int):=om;have i1:(i:Int)<(N:Int):=om;have x2:W1.cell? (xK gp (i*31+2))=some (iV 0):=by rw [<-U];exact G.cell hx (by unfold rpc Au;rfl)
 have k0:cE W1 CB 0 (iV kd):=D.cell rfl;have k1:cE W1 CB 1 (iV a):=D.cell rfl;have k2:cE W1 CB 2 (iV b):=D.cell rfl;have k3:cE W1 CB 3 (.string s):=D.cell rfl;have k4:cE W1 CB 4 (.slice sa sn sc):=D.cell rfl;have k5:cE W1 CB 5 (.slice da nb dc):=D.cell rfl;obtain ⟨QQ,I⟩:=xE ((λe w'=>e=GU 23/\Bw w w'));rw [<-I];have HQ:=AC I;have X:=AC F;unfold GL at E;unfold Gd at E ⊢;have V:=AC E;have O:=AC H;clear E F D H G h5 h hn J hi hx U I Y hN;go_enter func49,ntmps49
 go_upto_region 1 with fail
 rw [<-AB V,<-AB O];clear V O
 go_wp2_with fail
 refine HP.mono ?_;rintro e w2 ⟨rfl,hw⟩;subst hw;have n1:¬kd=1:=λe=>B ⟨om,om⟩;have n2:¬kd=2:=λe=>B ⟨om,om⟩;have n3:¬kd=3:=λe=>B ⟨om,om⟩;have n4:¬kd=4:=λe=>B ⟨om,om⟩;have n5:¬kd=5:=λe=>B ⟨om,om⟩;have n6:¬kd=6:=λe=>B ⟨om,om⟩;have n7:¬kd=7:=λe=>B ⟨om,om⟩;have a7:¬kd=15:=λe=>B ⟨om,om⟩;have a1:¬kd=16:=λe=>B ⟨om,om⟩;have a6:¬kd=17:=λe=>B ⟨om,om⟩;have Z:¬kd=18:=λe=>B ⟨om,om⟩;have a8:¬kd=19:=λe=>B ⟨om,om⟩;have n8:¬kd=8:=λe=>B ⟨om,om⟩;have n9:¬kd=9:=λe=>B ⟨om,om⟩;have a5:¬kd=10:=λe=>B ⟨om,om⟩;have a0:¬kd=11:=λe=>B ⟨om,om⟩;have a4:¬kd=12:=λe=>B ⟨om,om⟩;have a9:¬kd=13:=λe=>B ⟨om,om⟩;have a3:¬kd=14:=λe=>B ⟨om,om⟩;have a2:¬kd=21:=λe=>B ⟨om,om⟩;go_wp2;refine xh (v:= .tuple #[iV 0,iV 0,sN,iV 23]) (by simp [results,results49,go_sem]) rfl ?_;rw [AB HQ];exact ⟨rfl,AB X⟩
def fK (base gp cp:Nat) (L:List (AP×RL)) (pid:Int) (i:Nat) (x:AP×RL) (kd a b:Int) (s:ByteArray) (sa:Option Addr) (sn sc:Nat) (da:Option Addr) (nb dc:Nat) (w:World) (h5:cE w kb 5 (sL gp 0 L.length cp)) (h:RPs w base gp cp L) (hn:L.length<=1000) (O:kb<w.heap.size) (hi:Fs L pid=(i:Nat)) (hx:L[i]? =some x) (V:x.1.st≠0):
  cT 49 #[qP kb 0,iV pid,.agg (Gd kd a b s sa sn sc da nb dc)] w (λe w'=>e=GU 24/\Bw w w'):=by
 obtain ⟨W1,D⟩:=xE (GL w kd a b s sa sn sc da nb dc);have E:Bw w W1:=by rw [D];exact bA
 have B:AE W1 w.heap.size 144 [iV kd,iV a,iV b,.string s,.slice sa sn sc,.slice da nb dc]:=by rw [D];exact AE.new w 144 _
 obtain ⟨CB,I⟩:=xE w.heap.size;rw [<-I] at B;have G:=h.below E;have c5:W1.cell? (xK kb 5)=some (sL gp 0 L.length cp):=by rw [E.cell (p:=(xK kb 5)) O];exact h5
 have HP:=AC (Fi kb base gp cp L pid W1 c5 G hn);rw [hi] at HP;have Y:=(zy.1 hx).1;obtain ⟨N,hN⟩:=xE L.length;rw [<-hN] at c5;have i0:(0:Int)<=(i:Int):=om;have i1:(i:Int)<(N:Int):=om;obtain ⟨xs,F⟩:=xE x.1.st;rw [<-F] at V;have x2:W1.cell? (xK gp (i*31+2))=some (iV xs):=by rw [F];exact G.cell hx (by unfold rpc Au;rfl)
 have k0:cE W1 CB 0 (iV kd):=B.cell rfl;have k1:cE W1 CB 1 (iV a):=B.cell rfl;have k2:cE W1 CB 2 (iV b):=B.cell rfl;have k3:cE W1 CB 3 (.string s):=B.cell rfl;have k4:cE W1 CB 4 (.slice sa sn sc):=B.cell rfl;have k5:cE W1 CB 5 (.slice da nb dc):=B.cell rfl;obtain ⟨QQ,H⟩:=xE ((λe w'=>e=GU 24/\Bw w w'));rw [<-H];have HQ:=AC H;have X:=AC E;unfold GL at D;unfold Gd at D ⊢;have U:=AC D;have J:=AC I;clear D E B I G h5 h hn O hi hx F H Y hN;go_enter func49,ntmps49
 go_upto_region 1 with fail
 rw [<-AB U,<-AB J];clear U J
 go_wp2_with fail
 refine HP.mono ?_;rintro e w2 ⟨rfl,hw⟩;subst hw;go_wp2;refine xh (v:= .tuple #[iV 0,iV 0,sN,iV 24]) (by simp [results,results49,go_sem]) rfl ?_;rw [AB HQ];exact ⟨rfl,AB X⟩
def jk (base gp cp:Nat) (L:List (AP×RL)) (pid:Int) (kd a b:Int) (s:ByteArray) (sa:Option Addr) (sn sc:Nat) (da:Option Addr) (nb dc:Nat) (w:World) (h5:cE w kb 5 (sL gp 0 L.length cp)) (h:RPs w base gp cp L) (hn:L.length<=1000) (J:kb<w.heap.size) (hi:Fs L pid<0):
  cT 49 #[qP kb 0,iV pid,.agg (Gd kd a b s sa sn sc da nb dc)] w (λe w'=>e=GU 18/\Bw w w'):=by
 obtain ⟨W1,D⟩:=xE (GL w kd a b s sa sn sc da nb dc);have E:Bw w W1:=by rw [D];exact bA
 have B:AE W1 w.heap.size 144 [iV kd,iV a,iV b,.string s,.slice sa sn sc,.slice da nb dc]:=by rw [D];exact AE.new w 144 _
 obtain ⟨CB,G⟩:=xE w.heap.size;rw [<-G] at B;have U:=h.below E;have c5:W1.cell? (xK kb 5)=some (sL gp 0 L.length cp):=by rw [E.cell (p:=(xK kb 5)) J];exact h5
 have HP:=AC (Fi kb base gp cp L pid W1 c5 U hn);obtain ⟨ix,H⟩:=xE (Fs L pid);rw [<-H] at HP hi;obtain ⟨N,hN⟩:=xE L.length;rw [<-hN] at c5;have k0:cE W1 CB 0 (iV kd):=B.cell rfl;have k1:cE W1 CB 1 (iV a):=B.cell rfl;have k2:cE W1 CB 2 (iV b):=B.cell rfl;have k3:cE W1 CB 3 (.string s):=B.cell rfl;have k4:cE W1 CB 4 (.slice sa sn sc):=B.cell rfl;have k5:cE W1 CB 5 (.slice da nb dc):=B.cell rfl;obtain ⟨QQ,F⟩:=xE ((λe w'=>e=GU 18/\Bw w w'));rw [<-F];have HQ:=AC F;have V:=AC E;unfold GL at D;unfold Gd at D ⊢;have O:=AC D;have I:=AC G;clear D E B G U h5 h hn J H F hN;go_enter func49,ntmps49
 go_upto_region 1 with fail
 rw [<-AB O,<-AB I];clear O I
 go_wp2_with fail
 refine HP.mono ?_;rintro e w2 ⟨rfl,hw⟩;subst hw;go_wp2;refine xh (v:= .tuple #[iV 0,iV 0,sN,iV 18]) (by simp [results,results49,go_sem]) rfl ?_;rw [AB HQ];exact ⟨rfl,AB V⟩
def Ow (D:o.guard=none) (t u:TypeId) (x:Operand) (ho:o.op= .convert t u x) (vx v:Value) (hx:a.eval x=vx) (B:(convert t u vx).run P w= .ok v w) (h:wpList P ops Q rest (a.put o.dst v) w):wpList P ops Q (o::rest) a w:=
 wpList_plain D λK hK=>by
  unfold Oper.wp execOp;simp only [ho,hx,uk,B,ye,sr];exact hK _ _ h
def Xp (E:o.guard=none) (b:BinOp) (t u:TypeId) (x y:Operand) (ho:o.op= .binOp b t x y u) (vx vy v:Value) (hx:a.eval x=vx) (hy:a.eval y=vy) (D:((do eqGuard b t x y vx vy;binOp b t vx vy:Sem Value)).run P w= .ok v w) (h:wpList P ops Q rest (a.put o.dst v) w):wpList P ops Q (o::rest) a w:=
 wpList_plain E λK hK=>by
  have B:=D;simp only [uk] at B;unfold Oper.wp execOp;simp only [ho,hx,hy,uk];rw [B];simp only [ye,sr];exact hK _ _ h
def fL (a:Int) (w:World):(convert 3 234 (iV a)).run prog w= .ok (uV (IntKind.u64.wrap a)) w:=gS
def jl (h0:0<=z) (w:World):((do eqGuard .rem 234 (.tmp 65) (.const (uV 256)) (uV z) (uV 256);binOp .rem 234 (uV z) (uV 256):Sem Value)).run prog w= .ok (uV (z%256)) w:=by
 go_simp;rw [yi h0]
def fM (h0:0<=z) (h1:z<256) (w:World):(convert 234 3 (uV z)).run prog w= .ok (iV z) w:=by
 go_simp;rw [yg];omega
def jm (base gp cp:Nat) (L:List (AP×RL)) (pid:Int) (i:Nat) (x:AP×RL) (kd a b:Int) (s:ByteArray) (sa:Option Addr) (sn sc:Nat) (da:Option Addr) (nb dc:Nat) (w:World) (h5:cE w kb 5 (sL gp 0 L.length cp)) (h:RPs w base gp cp L) (hn:L.length<=1000) (X:kb<w.heap.size) (hi:Fs L pid=(i:Nat)) (hx:L[i]? =some x) (Z:x.1.st=0) (Q:Ending->World->Prop)
  (hQ:∀e w',Q e w'->e= .returned (.tuple #[])) (hk:kd=3)
  (hc:pid≠1->cT 92 #[qP kb 0,iV pid,iV (a%256)] (GL w kd a b s sa sn sc da nb dc) Q):
  cT 49 #[qP kb 0,iV pid,.agg (Gd kd a b s sa sn sc da nb dc)] w (λe w'=>(pid=1/\e=GU 18/\Bw w w')\/(pid≠1/\e=GU 0/\Q (.returned (.tuple #[])) w')):=by
 have a4:=AC hk;clear hk;obtain ⟨W1,D⟩:=xE (GL w kd a b s sa sn sc da nb dc);have G:Bw w W1:=by rw [D];exact bA
 have B:AE W1 w.heap.size 144 [iV kd,iV a,iV b,.string s,.slice sa sn sc,.slice da nb dc]:=by rw [D];exact AE.new w 144 _
 obtain ⟨CB,I⟩:=xE w.heap.size;rw [<-I] at B;rw [<-D] at hc;have H:=h.below G;have c5:W1.cell? (xK kb 5)=some (sL gp 0 L.length cp):=by rw [G.cell (p:=(xK kb 5)) X];exact h5
 have HP:=AC (Fi kb base gp cp L pid W1 c5 H hn);rw [hi] at HP;have a8:=(zy.1 hx).1;obtain ⟨N,hN⟩:=xE L.length;rw [<-hN] at c5;have i0:(0:Int)<=(i:Int):=om;have i1:(i:Int)<(N:Int):=om;have x2:W1.cell? (xK gp (i*31+2))=some (iV 0):=by rw [<-Z];exact H.cell hx (by unfold rpc Au;rfl)
 have k0:cE W1 CB 0 (iV kd):=B.cell rfl;have k1:cE W1 CB 1 (iV a):=B.cell rfl;have k2:cE W1 CB 2 (iV b):=B.cell rfl;have k3:cE W1 CB 3 (.string s):=B.cell rfl;have k4:cE W1 CB 4 (.slice sa sn sc):=B.cell rfl;have k5:cE W1 CB 5 (.slice da nb dc):=B.cell rfl;obtain ⟨QQ,V⟩:=xE ((λe w'=>(pid=1/\e=GU 18/\Bw w w')\/(pid≠1/\e=GU 0/\Q (.returned (.tuple #[])) w')));rw [<-V];obtain ⟨HQ,a6,HC,a7⟩:=H4 V hQ hc G;unfold GL at D;unfold Gd at D ⊢;have a3:=AC D;have Y:=AC I;clear D G B I hc H h5 h hn X hi hx Z hQ V a8 hN;go_enter func49,ntmps49
 go_upto_region 1 with fail
 rw [<-AB a3,<-AB Y];clear a3 Y
 go_wp2_with fail
 refine HP.mono ?_;rintro e w2 ⟨rfl,hw⟩;subst hw
 go_upto_region 10 with fail
 have hk:=AB a4;clear a4;subst hk;by_cases hp:pid=1
 ·subst hp;go_wp2;refine xh (v:= .tuple #[iV 0,iV 0,sN,iV 18]) (by simp [results,results49,go_sem]) rfl ?_;rw [AB HQ];exact .inl ⟨trivial,rfl,AB a7⟩
 ·obtain ⟨am,J⟩:=xE (a%256);obtain ⟨au,F⟩:=xE (IntKind.u64.wrap a);have O:=AC (AB HC hp);rw [<-J] at O;have E:0<=au:=by rw [F,yh];omega
  have a5:au%256=am:=by rw [J,F,yh];omega
  have a1:=AC (show (convert 3 234 (iV a)).run prog w2= .ok (uV au) w2 from by rw [F];exact fL a w2);have a0:=AC (show ((do eqGuard .rem 234 (.tmp 65) (.const (uV 256)) (uV au) (uV 256);binOp .rem 234 (uV au) (uV 256):Sem Value)).run prog w2= .ok (uV am) w2 from by rw [<-a5];exact jl au E w2);have a2:Hid ((convert 234 3 (uV am)).run prog w2= .ok (iV am) w2):=fM am om om w2;clear HC J F E a5
  go_wp2_with (first
   |(refine Ow rfl 3 234 _ rfl (.int .i64 a) (.int .u64 au) (by rfl) a1 ?_)
   |(refine Xp rfl .rem 234 234 (.tmp 65) (.const (.int .u64 256)) rfl (.int .u64 au) (.int .u64 256) (.int .u64 am) (by rfl) (by rfl) a0 ?_)
   |(refine Ow rfl 234 3 _ rfl (.int .u64 am) (.int .i64 am) (by rfl) a2 ?_))
  refine O.mono ?_;intro e w3 hq;obtain rfl:=AB a6 e w3 hq;have U:=AC hq;clear hq O HP c5 x2 k0 k1 k2 k3 k4 k5 a1 a0 a2;go_wp2;refine xh (v:= .tuple #[iV 0,iV 0,sN,iV 0]) (by simp [results,results49,go_sem]) rfl ?_;rw [AB HQ];exact .inr ⟨hp,rfl,AB U⟩
structure RXR (w:World) (T M:List Nat) (kb:Nat) (P:PK) (ks:List AP) (m base g cap gp cp:Nat) (k:RK) (cs:List (List Int)) (L:List (AP×RL)) (ty:List Value):Prop where
 ker:EB w base kb g cap k
 kbl:kb<base
 bs:base<=w.heap.size
 pv:k.pv= sL gp 0 L.length cp
 nils:k.ov= sN/\k.cv= sN/\k.uv= sN
 typ:w.ownsRow base 5 1 k.tv ty.length ty
 tyl:ty.length<=m
 toP:k.toP cs=P
 cont:DA w k.inos cs
 ps:RPs w base gp cp L
 kse:EZ L=ks
 tT:∀x∈k.inos,∀q n c,x.bytes= sL q 0 n c->q∈T
 mM:kb∈M/\g∈M/\gp∈M/\(∀b,k.tv.ownBlock=some b->b∈M)/\∀x∈L,0<x.1.PS.length->x.2.ga∈M
 apart:∀b∈T,b∉M
 ne:gp≠kb/\gp≠g/\∀x∈L,0<x.1.PS.length->x.2.ga≠kb/\x.2.ga≠g
 tne:∀b,k.tv.ownBlock=some b->b≠kb/\b≠g/\b≠gp/\∀x∈L,0<x.1.PS.length->x.2.ga≠b
 tl:∀b∈T,b<w.heap.size
 ml:∀b∈M,b<w.heap.size
def RX (w:World) (T M:List Nat) (kb:Nat) (P:PK) (ks:List AP) (m:Nat):Prop:=∃base g cap gp cp k cs L ty,RXR w T M kb P ks m base g cap gp cp k cs L ty
def Ez (w:World) (T M:List Nat) (kb:Nat) (P:PK) (ks:List AP) (m:Nat) (w':World):Prop:=∃M',RX w' T M' kb P ks m/\(∀b∈M',b∈M\/w.heap.size<=b)/\At M w w'
def Kr {xs:List Ino} (h:DA w xs cs) (hT:∀x∈xs,∀q n c,x.bytes= sL q 0 n c->q∈T) (hk:∀b∈T,w'.heap[b]? =w.heap[b]?):DA w' xs cs:=
 ⟨h.1,λi x c hx hc=>by
  rcases h.2 i x c hx hc with h1|⟨h1,q,h2,h3⟩
  ·exact .inl h1
  ·exact .inr ⟨h1,q,h2,AJ h3 (hk q (hT x (zv hx) q _ _ h2))⟩⟩
section
variable {kb:Nat} {P:PK} {k:RK}
def RXR.glt (h:RXR w T M kb P ks m base g cap gp cp k cs L ty):base<=g/\g<w.heap.size:=h.ker.2.lt g rfl
def RXR.stable (h:RXR w T M kb P ks m base g cap gp cp k cs L ty) (hs:w.heap.size<=w'.heap.size) (hT:∀b∈T,w'.heap[b]? =w.heap[b]?) (hM:∀b∈M,w'.heap[b]? =w.heap[b]?):RXR w' T M kb P ks m base g cap gp cp k cs L ty:=
 ⟨⟨AJ h.ker.1 (hM _ h.mM.1),Ck h.ker.2 (λb e=>by have e:g=b:=zr e;rw [<-e];exact hM _ h.mM.2.1)⟩,h.kbl,zg h.bs hs,h.pv,h.nils,Ck h.typ (λb e=>hM b (h.mM.2.2.2.1 b e)),h.tyl,h.toP,Kr h.cont h.tT hT,h.ps.block hs (hM _ h.mM.2.2.1) (λx hx h0=>hM _ (h.mM.2.2.2.2 x hx h0)),h.kse,h.tT,h.mM,h.apart,h.ne,h.tne,λb hb=>yz (h.tl b hb) hs,λb hb=>yz (h.ml b hb) hs⟩
def RXR.below (h:RXR w T M kb P ks m base g cap gp cp k cs L ty) (hb:Bw w w'):RXR w' T M kb P ks m base g cap gp cp k cs L ty:=h.stable hb.size (λb hB=>hb.block b (h.tl b hB)) (λb hB=>hb.block b (h.ml b hB))
def RX.stable (h:RX w T M kb P ks m) (hs:w.heap.size<=w'.heap.size) (hT:∀b∈T,w'.heap[b]? =w.heap[b]?) (hM:∀b∈M,w'.heap[b]? =w.heap[b]?):RX w' T M kb P ks m:=by
 obtain ⟨base,g,cap,gp,cp,k,cs,L,ty,h⟩:=h;exact ⟨base,g,cap,gp,cp,k,cs,L,ty,h.stable hs hT hM⟩
def RX.below (h:RX w T M kb P ks m) (hb:Bw w w'):RX w' T M kb P ks m:=by
 obtain ⟨base,g,cap,gp,cp,k,cs,L,ty,h⟩:=h;exact ⟨base,g,cap,gp,cp,k,cs,L,ty,h.below hb⟩
def RX.done (h:RX w T M kb P ks m) (hb:Bw w w'):Ez w T M kb P ks m w':=⟨M,h.below hb,λb hb=> .inl hb,At.of_below hb⟩
def Ez.after {w1:World} (h:Ez w1 T M kb P ks m w') (hb:Bw w w1):Ez w T M kb P ks m w':=by
 obtain ⟨M',h1,h2,h3⟩:=h;exact ⟨M',h1,λb hB=>(h2 b hB).imp id (λq=>zg hb.size q),(At.of_below hb).trans h3⟩
def RXR.next {g' cap':Nat} (h:RXR w T M kb P ks m base g cap gp cp k cs L ty)
  (hk:EB w' base kb g' cap' {k with pv:= sL gp' 0 L'.length cp'}) (hp:RPs w' base gp' cp' L') (hs:w.heap.size<=w'.heap.size) (ho:w'.os=w.os/\w'.tape=w.tape/\w'.output=w.output)
  (hb:∀b,b<w.heap.size->b≠kb->b≠gp->(∀x∈L,0<x.1.PS.length->x.2.ga≠b)->w'.heap[b]? =w.heap[b]?)
  (E:gp'=gp\/w.heap.size<=gp') (hg:g'=g\/w.heap.size<=g'/\gp'=gp) (H:∀x∈L',0<x.1.PS.length->(∃y∈L,0<y.1.PS.length/\y.2.ga=x.2.ga)\/w.heap.size<=x.2.ga/\g'=g):Ez w T M kb P (EZ L') m w':=by
 have U:=h.glt;have O:=h.ps.lt;have N:=h.ker.1.lt;have D:At M w w':=⟨ho.1,ho.2.1,ho.2.2,hs,λb I hn=>hb b I (λe=>hn (e▸h.mM.1)) (λe=>hn (e▸h.mM.2.2.1)) (λx hx h0 e=>hn (e▸h.mM.2.2.2.2 x hx h0))⟩;have hT:∀b∈T,w'.heap[b]? =w.heap[b]? :=λb hB=>D.block b (h.tl b hB) (h.apart b hB)
 have J:∀b,k.tv.ownBlock=some b->w'.heap[b]? =w.heap[b]? :=λb e=>by
  obtain ⟨n1,n2,n3,n4⟩:=h.tne b e;exact hb b (h.ml b (h.mM.2.2.2.1 b e)) n1 n3 n4
 have F:∀x∈L',0<x.1.PS.length->x.2.ga∈M\/w.heap.size<=x.2.ga:=λx hx h0=>by
  rcases H x hx h0 with ⟨y,hy,h1,e⟩|q
  ·exact .inl (e▸h.mM.2.2.2.2 y hy h1)
  ·exact .inr q.1
 have B:∀b,b∈M++(g'::gp'::(L'.filter (λx=>decide (0<x.1.PS.length))).map (λx=>x.2.ga))->b∈M\/(w.heap.size<=b/\b<w'.heap.size):=λb hB=>by
  rcases vo.1 hB with q|q
  ·exact .inl q
  ·rcases vp.1 q with rfl|q
   ·rcases hg with e|e
    ·exact .inl (e▸h.mM.2.1)
    ·exact .inr ⟨e.1,(hk.2.lt _ rfl).2⟩
   ·rcases vp.1 q with rfl|q
    ·rcases E with e|e
     ·exact .inl (e▸h.mM.2.2.1)
     ·exact .inr ⟨e,hp.lt.2⟩
    ·obtain ⟨x,hx,rfl⟩:=yt.1 q;obtain ⟨hx,h0⟩:=vk.1 hx;have h0:0<x.1.PS.length:=sU h0;rcases F x hx h0 with q|q
     ·exact .inl q
     ·exact .inr ⟨q,(hp.pages x hx h0).2.1⟩
 have G:∀x∈L',0<x.1.PS.length->x.2.ga∈M++(g'::gp'::(L'.filter (λx=>decide (0<x.1.PS.length))).map (λx=>x.2.ga)):=λx hx h0=>ry _ (ut _ (ut _ (ui (f:=λx:AP×RL=>x.2.ga) (vk.2 ⟨hx,by simpa using h0⟩))));refine ⟨_,⟨base,g',cap',gp',cp',_,cs,L',ty,hk,h.kbl,zg h.bs hs,rfl,h.nils,Ck h.typ J,h.tyl,h.toP,Kr h.cont h.tT hT,hp,rfl,h.tT,⟨yn _ h.mM.1,ry _ sI,ry _ sI,λb e=>yn _ (h.mM.2.2.2.1 b e),G⟩,λb hB hm=> ?_,⟨?_,?_,λx hx h0=> ?_⟩,λb e=> ?_,λb hB=>yz (h.tl b hB) hs,λb hB=> ?_⟩,λb hB=>(B b hB).imp id (λq=>q.1),D⟩
 ·rcases B b hm with q|q
  ·exact h.apart b hB q
  ·have:=h.tl b hB;omega
 ·rcases E with e|e
  ·rw [e];exact h.ne.1
  ·omega
 ·rcases hg with e|e
  ·rw [e];rcases E with e2|e2
   ·rw [e2];exact h.ne.2.1
   ·omega
  ·rw [e.2];omega
 ·rcases H x hx h0 with ⟨y,hy,h1,e⟩|q
  ·have hn:=h.ne.2.2 y hy h1;rw [<-e];refine ⟨hn.1,?_⟩;rcases hg with e2|e2
   ·rw [e2];exact hn.2
   ·have:=(h.ps.pages y hy h1).2.1;omega
  ·rw [q.2];omega
 ·obtain ⟨n1,n2,n3,n4⟩:=h.tne b e;have I:=h.ml b (h.mM.2.2.2.1 b e);refine ⟨n1,?_,?_,λx hx h0=> ?_⟩
  ·rcases hg with e2|e2
   ·rw [e2];exact n2
   ·omega
  ·rcases E with e2|e2
   ·rw [e2];exact n3
   ·omega
  ·rcases H x hx h0 with ⟨y,hy,h1,e2⟩|q
   ·rw [<-e2];exact n4 y hy h1
   ·omega
 ·rcases B b hB with q|q
  ·exact yz (h.ml b q) hs
  ·exact q.2
end
def KM (h:RPs w base gp cp L) (hs:w.heap.size<=w'.heap.size) (ho:w'.ownsRow base 78 31 (sL gp' 0 L'.length cp') L'.length (Ai L'))
  (hx:∀x∈L',0<x.1.PS.length->(∃y∈L,x.1.PS=y.1.PS/\x.2=y.2/\x.2.ga≠gp'/\w'.heap[y.2.ga]? =w.heap[y.2.ga]?)\/(x.2.aa=some (xK x.2.ga 0)/\x.2.ga<w'.heap.size/\x.2.ga≠gp'/\Bs w' x.2.ga x.1.PS/\∀i,w'.frozen? (xK x.2.ga i)=false))
  (B:L'.Pairwise (λx y=>0<x.1.PS.length->0<y.1.PS.length->x.2.ga≠y.2.ga)) (hc:∀x∈L',x.1.PS.length<=x.2.ca):RPs w' base gp' cp' L':=by
 refine ⟨ho,λx D h0=> ?_,B,hc⟩;rcases hx x D h0 with ⟨y,hy,e1,e2,e3,e4⟩|q
 ·rw [e1] at h0;obtain ⟨h1,h2,h3,h4,h5⟩:=h.pages y hy h0;rw [e2] at e3 ⊢;exact ⟨h1,yz h2 hs,e3,by rw [e1];exact GX h4 e4,λi=>E9 (h5 i) e4⟩
 ·exact q
def Rg (hl:L'.length=L.length) (hj:∀(j:Nat) (y y':AP×RL),L[j]? =some y->L'[j]? =some y'->0<y'.1.PS.length->0<y.1.PS.length/\y'.2.ga=y.2.ga) (h:L.Pairwise (λx y=>0<x.1.PS.length->0<y.1.PS.length->x.2.ga≠y.2.ga)):L'.Pairwise (λx y=>0<x.1.PS.length->0<y.1.PS.length->x.2.ga≠y.2.ga):=by
 rw [vd] at h ⊢;intro i j hi B D h1 h2;obtain ⟨a1,a2⟩:=hj i _ _ (zz om) (zz hi) h1;obtain ⟨b1,b2⟩:=hj j _ _ (zz om) (zz B) h2;rw [a2,b2];exact h i j om om D a1 b1
def jr (hy:∀x∈L,0<x.1.PS.length->0<y.1.PS.length->x.2.ga≠y.2.ga) (h:L.Pairwise (λx y=>0<x.1.PS.length->0<y.1.PS.length->x.2.ga≠y.2.ga)):(L.set i y).Pairwise (λx y=>0<x.1.PS.length->0<y.1.PS.length->x.2.ga≠y.2.ga):=by
 rw [vd] at h ⊢;intro a b ha hb B h1 h2;rw [yu] at ha hb;rw [List.getElem_set] at h1 h2 ⊢;rw [List.getElem_set];split at h1
 ·rename_i e1
  rw [vu e1];rw [vz om] at h2 ⊢;exact λe=>hy _ (rp hb) h2 h1 e.symm
 ·rename_i e1
  rw [vz e1];split at h2
  ·rename_i e2
   rw [vu e2];exact hy _ (rp ha) h1 h2
  ·rename_i e2
   rw [vz e2];exact h a b ha hb B h1 h2
def js {A B:List (AP×RL)} {q:AP×RL} (hq:∀x∈A++B,0<x.1.PS.length->0<q.1.PS.length->x.2.ga≠q.2.ga) (h:(A++B).Pairwise (λx y=>0<x.1.PS.length->0<y.1.PS.length->x.2.ga≠y.2.ga)):(A++[q]++B).Pairwise (λx y=>0<x.1.PS.length->0<y.1.PS.length->x.2.ga≠y.2.ga):=by
 rw [xu,ud];obtain ⟨h1,h2,h3⟩:=ud.1 h;refine ⟨h1,se.2 ⟨λx hx a b e=>hq x (ry _ hx) b a e.symm,h2⟩,λa ha b hb=> ?_⟩;rcases vp.1 hb with rfl|hb
 ·exact hq a (yn _ ha)
 ·exact h3 a ha b hb
section
variable {kb:Nat} {P:PK} {k:RK}
structure KN (P:PK) (ks:List AP) (k:RK) (cs:List (List Int)) (L:List (AP×RL)):Prop where
 n:L.length<=1000/\0<L.length
 inos:k.inos.length<=101/\0<k.inos.length
 lens:Ps k.inos (cs.map List.length)
 sum:(cs.map List.length).sum<=200000
 fr:(DP L).sum<=1000000
 inv:Ia k
 link:∀x∈k.inos,0<x.parent\/x.id=1
 sl:∀x∈k.inos,∃a n c,x.bytes= .slice a n c
 bytes:∀c∈cs,AK c/\c.length<=400000
 lim:k.lp=P.lp/\k.lf=P.lf
 sorted:Mw L
 frs:((DP L).sum:Int)=(Cc ks:Int)/\(L.length:Int)=(ks.length:Int)
def RXR.facts (h:RXR w T M kb P ks m base g cap gp cp k cs L ty) (hK:KOk P ks) (hP:jo P):KN P ks k cs L:=by
 have E:=h.kse;have B:=h.toP;have G:ks.length=L.length:=by rw [<-E];exact zc _
 have D:P.xs=k.inos.map erase:=by rw [<-B];rfl
 have H:P.cs=cs:=by rw [<-B];rfl
 have O:(DP L).sum=Cc ks:=by rw [<-E];exact mC L
 have N:=hK.cnt;have V:=hK.frames;have U:=hP.lf;have X:=hP.lp;have hu:=hP.used;have I:∀(i:Nat) (x:Ino) (c:List Int),k.inos[i]? =some x->cs[i]? =some c->∃a d,x.bytes= .slice a c.length d:=λi x c hx hc=>(h.cont.2 i x c hx hc).len;have J:∀(i:Nat) (x:Ino),k.inos[i]? =some x->∃c,cs[i]? =some c:=λi x hx=>⟨_,zz (by rw [h.cont.1];exact (zy.1 hx).1)⟩;have F:∀x∈k.inos,erase x∈P.xs:=λx hx=>by rw [D];exact ui hx
 refine ⟨⟨om,?_⟩,⟨by rw [D,zc] at hu;exact hu.2,?_⟩,⟨by rw [zc];exact h.cont.1,λi x n hx hn=> ?_⟩,by rw [H] at hu;exact hu.1,om,⟨λx hx=> ?_,?_,?_⟩,λx hx=> ?_,λx hx=> ?_,λc hc=>⟨hP.bytes c (by rw [H];exact hc),?_⟩,⟨by rw [<-B];rfl,by rw [<-B];rfl⟩,by unfold Mw;rw [E];exact hK.sorted,by rw [O],by rw [G]⟩
 ·obtain ⟨p,hp,_⟩:=hK.one;have:=rl hp;omega
 ·obtain ⟨x,hx,_⟩:=hP.inv.root;rw [D] at hx;have:=rl hx;rwa [zc] at this
 ·obtain ⟨c,hc⟩:=J i x hx;rw [ze,hc] at hn;obtain rfl:=zr hn;exact I i x c hx hc
 ·have:=(hP.inv.ids _ (F x hx)).2;rw [<-B] at this;exact this
 ·obtain ⟨x,hx,h1,_⟩:=hP.inv.root;rw [D] at hx;obtain ⟨y,hy,rfl⟩:=yt.1 hx;exact ⟨y,hy,h1⟩
 ·have:=hP.inv.last;rw [<-B] at this;exact this
 ·have hd:=hP.inv.down _ (F x hx);by_cases h0:x.parent=0
  ·exact .inr (hP.inv.root1s _ (F x hx) h0).1
  ·have:0<=x.parent:=hd.1;exact .inl om
 ·obtain ⟨i,hx⟩:=yj.1 hx;obtain ⟨c,hc⟩:=J i x hx;obtain ⟨a,d,e⟩:=I i x c hx hc;exact ⟨a,_,d,e⟩
 ·have:=LY (ui (f:=List.length) (show c∈P.cs by rw [H];exact hc));unfold AM at hu;omega
def jt (hx:L[i]? =some x) (hy:y∈PX L i x st):y.1.PS.length<=y.2.ca\/∃z∈L,y.1.PS=z.1.PS/\y.2=z.2:=by
 unfold PX Ca at hy;rw [xx sI,qw sI,xr] at hy;obtain ⟨u,hu,rfl⟩:=yt.1 hy;rcases rj hu with h1|rfl
 ·refine .inr ⟨u,h1,?_,rfl⟩;unfold FH;split<;>rfl
 ·refine .inl ?_;unfold FH AP.ended;split<;>simp
def ju (i:Nat) (x:AP×RL) (st:Int):(PX L i x st).length=L.length:=by unfold PX;rw [Uz,yu]
def Xy {y':AP×RL} (hx:L[i]? =some x) (hy:L[j]? =some y) (B:(PX L i x st)[j]? =some y'):y'.1.PS.length<=y.1.PS.length/\y'.2.ga=y.2.ga/\(0<y'.1.PS.length->y'.1.PS=y.1.PS/\y'.2=y.2):=by
 unfold PX Ca at B;rw [xx sI,qw sI,xr,ze] at B;by_cases e:i=j
 ·subst e;rw [hx] at hy;obtain rfl:=zr hy;rw [uj ((zy.1 hx).1)] at B;obtain rfl:=zr B;unfold FH AP.ended;split<;>simp
 ·rw [uc e,hy] at B;obtain rfl:=zr B;unfold FH;split<;>simp
def oJ (h:RXR w T M kb P ks m base g cap gp cp k cs L ty) (hf:KN P ks k cs L) (hx:L[i]? =some x) (N:x.1.par≠x.1.pid) (hp:KH base kb gp cp k L i x st w e w'):Ez w T M kb P (Nm ks x.1.pid st) m w':=by
 obtain ⟨-,⟨v,hv,G⟩,H,B⟩:=hp;have e0:EZ (PX L i x st)=Nm ks x.1.pid st:=by rw [<-h.kse];exact oF hf.sorted hx N st
 rw [<-e0];have X:=hf.inos.2;rcases G.2 with ⟨_,h0⟩|⟨g',cap',V,rfl,_,_⟩
 ·omega
 have O:=G.lt g' rfl;have D:=ju (L:=L) i x st
 have E:∀y∈PX L i x st,0<y.1.PS.length->∃z∈L,y.1.PS=z.1.PS/\y.2=z.2:=λy hy h0=>by
  obtain ⟨j,hj⟩:=yj.1 hy;have U:=(zy.1 hj).1;have hz:L[j]? =some (L[j]'om):=zz om;have:=(Xy hx hz hj).2.2 h0;exact ⟨_,zv hz,this.1,this.2⟩
 refine h.next (g':=g') (cap':=cap') (gp':=gp) (cp':=cp) ⟨?_,Lz G h.bs⟩ (KM h.ps B.size (by rw [D];exact H) (λy hy h0=> ?_) (Rg D (λj y y' hy J h0=> ?_) h.ps.apart) (λy hy=> ?_)) B.size ⟨B.os,B.tape,B.output⟩ (λb I n1 n2 _=>B.block b I n1 n2) (.inl rfl) (.inr ⟨O.1,rfl⟩) (λy hy h0=> ?_)
 ·rw [D,<-h.pv];exact hv
 ·obtain ⟨z,hz,e1,e2⟩:=E y hy h0;rw [e1] at h0;have F:=h.ps.pages z hz h0;exact .inl ⟨z,hz,e1,e2,by rw [e2];exact F.2.2.1,B.block _ F.2.1 (h.ne.2.2 z hz h0).1 F.2.2.1⟩
 ·have:=Xy hx hy J;exact ⟨om,this.2.1⟩
 ·rcases jt hx hy with q|⟨z,hz,e1,e2⟩
  ·exact q
  ·rw [e1,e2];exact h.ps.cap z hz
 ·obtain ⟨z,hz,e1,e2⟩:=E y hy h0;exact .inl ⟨z,hz,by rw [<-e1];exact h0,by rw [e2]⟩
end
def Zz (hs:ks.Pairwise (λa b=>a.pid<b.pid)) {z:AP} (hz:ks[j]? =some z):ks.take j++ks.drop (j+1)=ks.filter (λy=>y.pid !=z.pid):=by
 obtain ⟨hj,e⟩:=zy.1 hz;have B:ks=ks.take j++z::ks.drop (j+1):=by rw [<-e,List.getElem_cons_drop,uq]
 rw [B] at hs;obtain ⟨h1,h2,h3⟩:=ud.1 hs;have h4:=(se.1 h2).1
 conv=>rhs;rw [B]
 rw [List.filter_append,ua sI,qu.2 (λa ha=> ?_),qu.2 (λa ha=> ?_)]
 ·have:=h4 a ha;simp;omega
 ·have:=h3 a ha z sI;simp;omega
def fU {z:AP} (hz:ks[j]? =some z) (h1:z.par=pid) (h2:z.st=2) (hb:∀(i:Nat) (y:AP),i<j->ks[i]? =some y->y.par=pid->y.st≠2):waitZ ks pid=some z:=by
 unfold waitZ TV;rw [List.find?_filter];refine tm.2 ⟨by simp [h1,h2],j,(zy.1 hz).1,(zy.1 hz).2,λi hi=> ?_⟩;have B:i<ks.length:=o1 (zy.1 hz).1;have:=hb i _ hi (zz B);by_cases e:ks[i].par=pid
 ·simp [e,this e]
 ·simp [e]
section
variable {kb:Nat} {P:PK} {k:RK}
def oK (h:RXR w T M kb P ks m base g cap gp cp k cs L ty):ks.length=L.length:=by rw [<-h.kse];exact zc _
def Np (h:RXR w T M kb P ks m base g cap gp cp k cs L ty) (hx:x∈L):x.1∈ks:=by rw [<-h.kse];exact ui (f:=λx:AP×RL=>x.1) hx
def VA (h:RXR w T M kb P ks m base g cap gp cp k cs L ty) (hx:L[i]? =some x):ks[i]? =some x.1:=by rw [<-h.kse];exact KI hx
def mP (h:RXR w T M kb P ks m base g cap gp cp k cs L ty) (hf:KN P ks k cs L) (hK:KOk P ks) {x:AP} (E:x.pid=pid) (hp:Ir kb base (k.cells (sL g 0 k.inos.length cap)) L pid w e w'):∃o,bj ks x o/\o.out=[]/\e= .returned (.tuple #[iV o.n,iV o.m,sN,iV o.c])/\Ez w T M kb P o.ks m w':=by
 have hR:RX w T M kb P ks m:=⟨base,g,cap,gp,cp,k,cs,L,ty,h⟩;rcases hp with ⟨h1,rfl,hb⟩|⟨j,z,hz,z1,z2,zb,rfl,v,hv,H,N,hg⟩
 ·have V:∀y∈ks,y.par=pid->y.st≠2:=λy hy=>by
   rw [<-h.kse] at hy;obtain ⟨u,hu,rfl⟩:=yt.1 hy;exact h1 u hu
  refine ⟨D6 ks (FU L pid),?_,rfl,rfl,hR.done hb⟩;unfold bj;rw [E];unfold FU;by_cases ha:L.any (λx=>x.1.par==pid)=true
  ·rw [vu ha];refine .inr (.inl ⟨?_,?_,rfl⟩)
   ·obtain ⟨u,hu,e⟩:=List.any_eq_true.1 ha;intro e0;have:=tp.1 e0 u.1 (Np h hu);exact this e
   ·unfold waitZ;refine xm.2 (λy hy=> ?_);obtain ⟨J,O⟩:=vk.1 hy;have:=V y J (sU O);simpa using this
  ·rw [vz ha];refine .inl ⟨tp.2 (λy hy e=>ha ?_),rfl⟩;rw [<-h.kse] at hy;obtain ⟨u,hu,rfl⟩:=yt.1 hy;exact List.any_eq_true.2 ⟨u,hu,e⟩
 ·refine ⟨⟨z.1.pid,z.1.su,[],0,ks.filter (λy=>y.pid !=z.1.pid)⟩,.inr (.inr ⟨z.1,?_,rfl⟩),rfl,rfl,?_⟩
  ·rw [E];refine fU (VA h hz) z1 z2 (λi y hi hy=> ?_);rw [<-h.kse] at hy;unfold EZ at hy;rw [ze] at hy
   cases hu:L[i]? with
   |none=>rw [hu] at hy;cases hy
   |some u=>
    rw [hu] at hy;obtain rfl:=zr hy;exact zb i u hi hu
  ·have hL:EZ (L.take j++L.drop (j+1))=ks.filter (λy=>y.pid !=z.1.pid):=by
    rw [<-Zz hK.sorted (VA h hz),<-h.kse];unfold EZ;rw [xj,List.map_take,List.map_drop]
   have a2:=(zy.1 hz).1;have X:(L.take j++L.drop (j+1)).length=L.length-1:=sO
   have a1:0<(L.take j++L.drop (j+1)).length:=by
    rcases sf (L.take j++L.drop (j+1)).length with q|q
    ·exfalso;have G:ks.filter (λy=>y.pid !=z.1.pid)=[]:=by rw [<-hL,uz q];rfl
     obtain ⟨p,I,a3⟩:=hK.one;have a0:=hK.each _ (Np h (zv hz));rcases a0.st with q|q
     ·omega
     ·have:=tp.1 G p I;simp only [bne_iff_ne,ne_eq,Classical.not_not] at this;exact q.2.2.2 om
    ·exact q
   have B:∀y∈L.take j++L.drop (j+1),y∈L:=λy hy=>by
    rcases vo.1 hy with q|q
    ·exact sm q
    ·exact rq q
   rw [<-hL];rcases H.2 with ⟨_,h0⟩|⟨g',cap',a4,rfl,_,_⟩
   ·omega
   have U:=N g' rfl;have D:∀b,b<w.heap.size->b≠kb->w'.heap[b]? =w.heap[b]? :=λb F hn=>hg.block b F (sU hn);have Z:=h.glt;refine h.next (g':=g) (cap':=cap) (gp':=g') (cp':=cap') ⟨hv,Ck h.ker.2 (λb e=> ?_)⟩ (KM h.ps hg.size H (λy hy h0=> ?_) (h.ps.apart.sublist ?_) (λy hy=>h.ps.cap y (B y hy))) hg.size ⟨hg.os,hg.tape,hg.output⟩ (λb F n1 _ _=>D b F n1) (.inr U) (.inl rfl) (λy hy h0=> .inl ⟨y,B y hy,h0,rfl⟩)
   ·have e:g=b:=zr e;rw [<-e];exact D g Z.2 (o1 h.kbl)
   ·have Y:=h.ps.pages y (B y hy) h0;exact .inl ⟨y,B y hy,rfl,rfl,om,D _ Y.2.1 (h.ne.2.2 y (B y hy) h0).1⟩
   ·rw [<-List.eraseIdx_eq_take_drop_succ];exact List.eraseIdx_sublist _ _
def pE {x:AP} (h0:x.st=0) (h1:x.su=0) (h2:x.le=0) (j:Int):fkA x j=Fz x j:=by
 obtain ⟨_,_,_,_,_,_,_,_,_⟩:=x;simp only at h0 h1 h2;subst h0 h1 h2;rfl
def mQ (h:RXR w T M kb P ks m base g cap gp cp k cs L ty) (hf:KN P ks k cs L) (hK:KOk P ks) (hx:L[i]? =some x) (O:x.1.st=0) (hp:G7 kb base (k.cells (sL g 0 k.inos.length cap)) k.lp k.lf L x w e w'):∃o,Xf P ks x.1 o/\o.out=[]/\o.m=0/\e= .returned (.tuple #[iV o.n,iV o.c])/\Ez w T M kb P o.ks m w':=by
 have hR:RX w T M kb P ks m:=⟨base,g,cap,gp,cp,k,cs,L,ty,h⟩;obtain ⟨l1,l2⟩:=hf.lim;obtain ⟨f1,f2⟩:=hf.frs;rcases hp with ⟨a1,rfl,hb⟩|⟨a1,a2,rfl,hb⟩|⟨a1,a2,j,l,g',c',hj,rfl,hv,G,N,V,F,hg⟩
 ·exact ⟨D6 ks 19,.inl ⟨om,rfl⟩,rfl,rfl,rfl,hR.done hb⟩
 ·exact ⟨D6 ks 7,.inr (.inl ⟨om,om,rfl⟩),rfl,rfl,rfl,hR.done hb⟩
 ·have I:=hK.each _ (Np h (zv hx))
  have X:x.1.su=0:=by
   rcases I.st with q|q
   ·exact q.2.1
   ·omega
  have H:JR ks j:=by rw [<-h.kse];exact je hj
  rw [pE O X I.le] at hv G
  have hL:EZ (Ky L (Fz x.1 j,l))=Lx ks (Fz x.1 j):=by
   rw [<-h.kse];exact oE hf.sorted (by rw [h.kse];exact H.free)
  refine ⟨⟨j,0,[],0,Lx ks (Fz x.1 j)⟩,.inr (.inr ⟨om,om,j,H,rfl⟩),rfl,rfl,rfl,?_⟩;rw [<-hL];have J:L.take (IU L (Fz x.1 j).pid)++L.drop (IU L (Fz x.1 j).pid)=L:=uq _ _
  have B:∀y∈Ky L (Fz x.1 j,l),y=(Fz x.1 j,l)\/y∈L:=λy hy=>by
   rcases vo.1 hy with q|q
   ·rcases vo.1 q with q|q
    ·exact .inr (sm q)
    ·exact .inl (sU q)
   ·exact .inr (rq q)
  have D:∀b,b<w.heap.size->b≠kb->w'.heap[b]? =w.heap[b]? :=λb E hn=>hg.block b E (sU hn);have Y:=h.glt;refine h.next (g':=g) (cap':=cap) (gp':=g') (cp':=c') ⟨hv,Ck h.ker.2 (λb e=> ?_)⟩ (KM h.ps hg.size G (λy hy h0=> ?_) (js (λy hy h0 h1=> ?_) (by rw [J];exact h.ps.apart)) (λy hy=> ?_)) hg.size ⟨hg.os,hg.tape,hg.output⟩ (λb E n1 _ _=>D b E n1) (.inr N) (.inl rfl) (λy hy h0=> ?_)
  ·have e:g=b:=zr e;rw [<-e];exact D g Y.2 (o1 h.kbl)
  ·rcases B y hy with rfl|q
   ·obtain ⟨p1,p2,p3,p4,p5,p6⟩:=F h0;exact .inr ⟨p1,p3,p4,p5,p6⟩
   ·have U:=h.ps.pages y q h0;exact .inl ⟨y,q,rfl,rfl,om,D _ U.2.1 (h.ne.2.2 y q h0).1⟩
  ·rw [J] at hy;have:=(h.ps.pages y hy h0).2.1;have:=(F h1).2.1;show y.2.ga≠l.ga;omega
  ·rcases B y hy with rfl|q
   ·exact V
   ·exact h.ps.cap y q
  ·rcases B y hy with rfl|q
   ·exact .inr ⟨(F h0).2.1,rfl⟩
   ·exact .inl ⟨y,q,h0,rfl⟩
def jw (h:RXR w T M kb P ks m base g cap gp cp k cs L ty) (hf:KN P ks k cs L) (hx:L[i]? =some x) {y:AP} {l:RL} (I:y.pid=x.1.pid) (J:w'.ownsRow base 78 31 (sL gp 0 L.length cp) L.length (Ai (L.set i (y,l)))) (N:y.PS.length<=l.ca) (G:0<y.PS.length->l.aa=some (xK l.ga 0)/\w.heap.size<=l.ga/\l.ga<w'.heap.size/\Bs w' l.ga y.PS/\∀i,w'.frozen? (xK l.ga i)=false) (hg:w.grownBy w' (some gp)):Ez w T M kb P (IV ks y) m w':=by
 have hL:EZ (L.set i (y,l))=IV ks y:=by rw [<-h.kse];exact jd hf.sorted hx I
 rw [<-hL];have B:∀b,b<w.heap.size->b≠gp->w'.heap[b]? =w.heap[b]? :=λb F hn=>hg.block b F (sU hn);have O:=h.glt;have U:=h.ps.lt;have E:(L.set i (y,l)).length=L.length:=yu;have D:∀z∈L.set i (y,l),z=(y,l)\/z∈L:=λz hz=>(rj hz).symm;refine h.next (g':=g) (cap':=cap) (gp':=gp) (cp':=cp) ⟨?_,Ck h.ker.2 (λb e=> ?_)⟩ (KM h.ps hg.size (by rw [E];exact J) (λz hz h0=> ?_) (jr (λz hz h0 h1=> ?_) h.ps.apart) (λz hz=> ?_)) hg.size ⟨hg.os,hg.tape,hg.output⟩ (λb F _ n2 _=>B b F n2) (.inl rfl) (.inl rfl) (λz hz h0=> ?_)
 ·rw [E,<-h.pv];exact AJ h.ker.1 (B _ h.ker.1.lt (λe=>h.ne.1 e.symm))
 ·have e:g=b:=zr e;rw [<-e];exact B g O.2 (λe=>h.ne.2.1 e.symm)
 ·rcases D z hz with rfl|q
  ·obtain ⟨p1,p2,p3,p5,p6⟩:=G h0;exact .inr ⟨p1,p3,by show l.ga≠gp;omega,p5,p6⟩
  ·have H:=h.ps.pages z q h0;exact .inl ⟨z,q,rfl,rfl,H.2.2.1,B _ H.2.1 H.2.2.1⟩
 ·have:=(h.ps.pages z hz h0).2.1;have:=(G h1).2.1;show z.2.ga≠l.ga;omega
 ·rcases D z hz with rfl|q
  ·exact N
  ·exact h.ps.cap z q
 ·rcases D z hz with rfl|q
  ·exact .inr ⟨(G h0).2.1,rfl⟩
  ·exact .inl ⟨z,q,h0,rfl⟩
def oL (h:RXR w T M kb P ks m base g cap gp cp k cs L ty) (hf:KN P ks k cs L) (hx:L[i]? =some x) {n:Int} (hp:Gc base gp cp k.lf L i x n w e w'):∃o,oD P ks x.1 n o/\o.out=[]/\o.m=0/\e= .returned (.tuple #[iV o.n,iV o.c])/\Ez w T M kb P o.ks m w':=by
 have hR:RX w T M kb P ks m:=⟨base,g,cap,gp,cp,k,cs,L,ty,h⟩;obtain ⟨l1,l2⟩:=hf.lim;obtain ⟨f1,f2⟩:=hf.frs;have F:Sg x.1=CN x.1.PS 254:=rfl;rcases hp with ⟨a1,rfl,hb⟩|⟨a1,a2,rfl,hb⟩|⟨a1,a2,a3,rfl,l,D,E,B,hg⟩
 ·exact ⟨D6 ks 6,.inl ⟨a1,rfl⟩,rfl,rfl,rfl,hR.done hb⟩
 ·exact ⟨D6 ks 7,.inr (.inl ⟨a1,om,rfl⟩),rfl,rfl,rfl,hR.done hb⟩
 ·exact ⟨⟨(Sg x.1:Int)*256,0,[],0,IV ks (KL x.1 n)⟩,.inr (.inr ⟨a1,om,om,rfl⟩),rfl,rfl,rfl,jw (y:=KL x.1 n) (l:=l) h hf hx rfl D E B hg⟩
def Pp (hx:L[i]? =some x):Ai L=Ai (L.take i)++(rpc x++Ai (L.drop (i+1)))/\(Ai (L.take i)).length=i*31:=by
 obtain ⟨hi,e⟩:=zy.1 hx;constructor
 ·conv=>lhs;rw [<-uq i L,<-List.getElem_cons_drop hi,e]
  unfold Ai;rw [ur,vi]
 ·rw [Cw,yr];congr 1;omega
def VB (hA:A.length=n) (hj:j<R.length) (v:Value):(A++(R++C)).set (n+j) v=A++(R.set j v++C):=by
 rw [ul _ _ om,List.set_append_left _ _ om];congr 3;omega
def Z0 {c:List Value} (hA:A.length=n) (hj:j+c.length<=R.length):splice (A++(R++C)) (n+j) c=A++(splice R j c++C):=by
 unfold splice;rw [List.take_append,rm,hA,show n+j-n=j by omega,show n+j+c.length-n=j+c.length by omega,xx om,qw om,xy om,List.drop_append_of_le_length hj];simp only [xu,xt]
def jx (hx:L[i]? =some x) (l:RL) (c:List Int) (ss:List ByteArray):Ij (Ai L) i (.slice l.aa (FK x.1 c ss).PS.length l.ca) (AO c 24 8) (65024+(Dc ss:Int))=Ai (L.set i (FK x.1 c ss,l)):=by
 obtain ⟨e1,hA⟩:=Pp hx;have hi:=(zy.1 hx).1;have B:(L.set i (FK x.1 c ss,l))[i]? =some (FK x.1 c ss,l):=uj hi;obtain ⟨e2,_⟩:=Pp B;rw [e2,List.take_set_of_le (zx i),List.drop_set_of_lt om];unfold Ij;rw [e1,VB hA (by rw [GO];omega),VB hA (by rw [yu,GO];omega),Z0 hA (by rw [yu,yu,GO];decide),VB hA (by unfold splice;simp [GO,Ii])];rfl
def mR (h:RXR w T M kb P ks m base g cap gp cp k cs L ty) (hf:KN P ks k cs L) (hx:L[i]? =some x) {s:ByteArray} {ss:List ByteArray} (hp:Vr base gp L.length cp k cs (DP L) (Ai L) i s ss w e w'):∃o,Xg P ks x.1 s ss o/\o.out=[]/\o.m=0/\e= .returned (.tuple #[iV o.n,iV o.c])/\Ez w T M kb P o.ks m w':=by
 have hR:RX w T M kb P ks m:=⟨base,g,cap,gp,cp,k,cs,L,ty,h⟩;have G:DP L=ks.map (λz=>z.PS.length):=by rw [<-h.kse];unfold DP EZ;rw [rx];rfl
 rw [G] at hp;rcases hp with ⟨c,h1,rfl,hb⟩|⟨h1,rfl,hg,gn,cn,B,E⟩
 ·have h2:=OI h1;rw [h.toP] at h2;exact ⟨D6 ks c,⟨i,VA h hx,.inl ⟨c,h2,rfl⟩⟩,rfl,rfl,rfl,hR.done hb⟩
 ·have h2:=QY h1;have H:fileOf k cs s=P.fileOf s:=by rw [<-Hi,h.toP]
  rw [h.toP] at h2;rw [H] at B E;have D:(FK x.1 (P.fileOf s) ss).PS.length=(Ad (P.fileOf s)).length+2:=by simp [FK,CS]
  have I:(FK x.1 (P.fileOf s) ss).PS=Ad (P.fileOf s)++CS (AS ss):=rfl;have F:=B.lt gn rfl;rw [<-D,jx hx ⟨some (xK gn 0),gn,cn⟩] at E;refine ⟨⟨0,0,[],0,IV ks (FK x.1 (P.fileOf s) ss)⟩,⟨i,VA h hx,.inr ⟨h2,rfl⟩⟩,rfl,rfl,rfl,jw (y:=FK x.1 (P.fileOf s) ss) (l:=⟨some (xK gn 0),gn,cn⟩) h hf hx rfl E (by rw [D];exact Ux B) (λ_=>⟨rfl,F.1,F.2,?_,λi=>B.frozenAt i⟩) hg⟩;show Bs w' gn (FK x.1 (P.fileOf s) ss).PS;refine UG (λq hq=> ?_) (base:=w.heap.size) (gc:=cn) ?_
  ·rcases vo.1 hq with q1|q1
   ·exact (Kd h2.2.2.2.1 q q1).2.2
   ·exact (Kn _ (CE h2.2.2.2.2.1) q q1).2.2
  ·rw [D,I,Q5];exact B
def mS (h:RXR w T M kb P ks m base g cap gp cp k cs L ty) (hf:KN P ks k cs L) (hK:KOk P ks) (hx:L[i]? =some x) (a8:x.1.st=0) {ca:Int} {B:List Int} (hp:G8 x.1.PS x.2.ga ca B w e w'):∃o,jY ks x.1 ca B o/\o.out=[]/\o.m=0/\e= .returned (.tuple #[iV o.n,iV o.c])/\Ez w T M kb P o.ks m w':=by
 have hR:RX w T M kb P ks m:=⟨base,g,cap,gp,cp,k,cs,L,ty,h⟩;rcases hp with ⟨a1,rfl,hb⟩|⟨a1,a2,rfl,hb⟩|⟨a1,a2,rfl,a7,hg⟩
 ·exact ⟨D6 ks 6,.inl ⟨a1,rfl⟩,rfl,rfl,rfl,hR.done hb⟩
 ·exact ⟨D6 ks 7,.inr (.inl ⟨a1,a2,rfl⟩),rfl,rfl,rfl,hR.done hb⟩
 ·have J:=zv hx;have b0:=hK.each _ (Np h J);have h0:=b0.live a8;obtain ⟨N,X⟩:=a7 h0;have H:=Ke (Fr x.1.PS (IntKind.u64.wrap ca) B B.length);obtain ⟨QS,a3⟩:=xE (CF x.1.PS (IntKind.u64.wrap ca) B B.length);rw [<-a3] at N H;refine ⟨⟨B.length,0,[],0,IV ks {x.1 with PS:=QS}⟩,.inr (.inr ⟨a1,a2,by rw [a3]⟩),rfl,rfl,rfl,?_⟩
  have hL:EZ (L.set i ({x.1 with PS:=QS},x.2))=IV ks {x.1 with PS:=QS}:=by
   rw [<-h.kse];exact jd (y:=({x.1 with PS:=QS},x.2)) hf.sorted hx rfl
  rw [<-hL];obtain ⟨q1,q2,q3,q4,q5⟩:=h.ps.pages x J h0;have Z:=h.ne.2.2 x J h0;have E:∀b,b<w.heap.size->b≠x.2.ga->w'.heap[b]? =w.heap[b]? :=λb U hn=>hg.block b U (sU hn);have b2:=h.glt;have a6:=h.ps.lt;have F:(L.set i ({x.1 with PS:=QS},x.2)).length=L.length:=yu
  have Y:Ai (L.set i ({x.1 with PS:=QS},x.2))=Ai L:=by
   have a5:(L.set i ({x.1 with PS:=QS},x.2))[i]? =some ({x.1 with PS:=QS},x.2):=uj (zy.1 hx).1;rw [(Pp a5).1,(Pp hx).1,List.take_set_of_le (zx i),List.drop_set_of_lt om];have:rpc ({x.1 with PS:=QS},x.2)=rpc x:=by unfold rpc;simp only [H]
   rw [this]
  have O:=(zy.1 hx).1;have a0:=vd.1 h.ps.apart
  have V:∀(j:Nat) (z:AP×RL),L[j]? =some z->j≠i->0<z.1.PS.length->z.2.ga≠x.2.ga:=λj z hz a9 G=>by
   obtain ⟨a4,ez⟩:=zy.1 hz;obtain ⟨_,ex⟩:=zy.1 hx;rcases Nat.lt_or_gt_of_ne a9 with q|q
   ·have:=a0 j i a4 O q;rw [ez,ex] at this;exact this G h0
   ·have:=a0 i j O a4 q;rw [ez,ex] at this;exact λe=>this h0 G e.symm
  have D:∀z∈L.set i ({x.1 with PS:=QS},x.2),z=({x.1 with PS:=QS},x.2)\/z∈L/\(0<z.1.PS.length->z.2.ga≠x.2.ga):=λz hz=>by
   obtain ⟨j,hj⟩:=yj.1 hz;by_cases e:i=j
   ·subst e;rw [uj O] at hj;exact .inl (zr hj).symm
   ·rw [uc e] at hj;exact .inr ⟨zv hj,λG=>V j z hj (λe2=>e e2.symm) G⟩
  refine h.next (g':=g) (cap':=cap) (gp':=gp) (cp':=cp) ⟨?_,Ck h.ker.2 (λb e=> ?_)⟩ (KM h.ps hg.size ?_ (λz hz G=> ?_) (Rg F (λj y y' hy I b1=> ?_) h.ps.apart) (λz hz=> ?_)) hg.size ⟨hg.os,hg.tape,hg.output⟩ (λb U _ _ n3=>E b U (λe=>n3 x J h0 e.symm)) (.inl rfl) (.inl rfl) (λz hz G=> ?_)
  ·rw [F,<-h.pv];exact AJ h.ker.1 (E _ h.ker.1.lt (λe=>Z.1 e.symm))
  ·have e:g=b:=zr e;rw [<-e];exact E g b2.2 (λe=>Z.2 e.symm)
  ·rw [F,Y];exact Hh h.ps.own (E _ a6.2 (λe=>q3 e.symm))
  ·rcases D z hz with rfl|⟨q,qn⟩
   ·exact .inr ⟨q1,yz q2 hg.size,q3,N,X⟩
   ·have I:=h.ps.pages z q G;exact .inl ⟨z,q,rfl,rfl,I.2.2.1,E _ I.2.1 (qn G)⟩
  ·by_cases e:i=j
   ·subst e;rw [uj O] at I;rw [hx] at hy;obtain rfl:=zr hy;obtain rfl:=zr I;exact ⟨h0,rfl⟩
   ·rw [uc e,hy] at I;obtain rfl:=zr I;exact ⟨b1,rfl⟩
  ·rcases D z hz with rfl|⟨q,_⟩
   ·show QS.length<=x.2.ca;rw [H];exact h.ps.cap x J
   ·exact h.ps.cap z q
  ·rcases D z hz with rfl|⟨q,_⟩
   ·exact .inl ⟨x,J,h0,rfl⟩
   ·exact .inl ⟨z,q,G,rfl⟩
end
end Go.Proofs.YtpcjkidgohpeoaaGreatDoor
