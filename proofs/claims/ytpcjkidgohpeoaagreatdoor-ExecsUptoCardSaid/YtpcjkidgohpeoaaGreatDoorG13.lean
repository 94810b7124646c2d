import Derived.Test.YtpcjkidgohpeoaaGreatDoorG11
import Derived.Deep.RegionWith
set_option maxRecDepth 100000
set_option maxHeartbeats 8000000
set_option linter.all false
namespace Go.Proofs.YtpcjkidgohpeoaaGreatDoor
open RowKit Proofs.Tryz
variable {B F R:List Int} {c lp lf lo li lb pid par st su le pc:Int} {w w' W wr:World} {e:Ending} {base g gc size n cap j i ag:Nat} {PS:List Pg} {v:Value} {PL:List Nat} {xs:List Value} {k:RK} {cs:List (List Int)} {s:ByteArray} {ss:List ByteArray} {p:AP} {AL:List AP} (a:Option Addr)
def Ad (B:List Int):List Pg:=Bl B (Bb B) 256
def Bad (B:List Int) (c:Int):Prop:=
 ¬CO B/\c=2\/CO B/\¬Jl B/\c=3\/CO B/\Jl B/\((∃p,p<256/\1<(Bb B).countP (λs=>cov s p))/\c=4\/
  (∀p,p<256->(Bb B).countP (λs=>cov s p)<=1)/\¬QE (AO B 24 8) (Ad B)/\c=5)
def MP (B:List Int):Prop:=CO B/\Jl B/\(∀p,p<256->(Bb B).countP (λs=>cov s p)<=1)/\QE (AO B 24 8) (Ad B)
def Bad.uniq {d:Int} (h:Bad B c) (k:Bad B d):c=d:=by
 have no:(∃p,p<256/\1<(Bb B).countP (λs=>cov s p))->(∀p,p<256->(Bb B).countP (λs=>cov s p)<=1)->False:=λ⟨p,h1,h2⟩ h3=>o1 (h3 p h1);rcases h with ⟨a,rfl⟩|⟨a,b,rfl⟩|⟨a,b,(⟨x,rfl⟩|⟨x,y,rfl⟩)⟩<;>rcases k with ⟨a',rfl⟩|⟨a',b',rfl⟩|⟨a',b',(⟨x',rfl⟩|⟨x',y',rfl⟩)⟩<;>first|rfl|exact absurd a' a|exact absurd a a'|exact absurd b' b|exact absurd b b'|exact (no x x').elim|exact (no x' x).elim
def Bad.notGood (h:Bad B c) (k:MP B):False:=by
 obtain ⟨k1,k2,k3,k4⟩:=k;rcases h with ⟨a,rfl⟩|⟨a,b,rfl⟩|⟨a,b,(⟨⟨p,h1,h2⟩,rfl⟩|⟨x,y,rfl⟩)⟩
 ·exact a k1
 ·exact b k2
 ·have:=k3 p h1;omega
 ·exact y k4
def Bad.code (h:Bad B c):2<=c/\c<=5:=by
 rcases h with ⟨a,rfl⟩|⟨a,b,rfl⟩|⟨a,b,(⟨x,rfl⟩|⟨x,y,rfl⟩)⟩<;>decide
def dJ (hB:AK B) (h:Vi B w e w'):
  (∃c,Bad B c/\e=Hr c)\/(MP B/\∃g gc,e= .returned (.tuple #[.agg #[uV (AO B 24 8),sL g 0 (Ad B).length gc],.nilIface])/\w'.ownsRow w.heap.size 164 258 (sL g 0 (Ad B).length gc) (Ad B).length (BH (Ad B))):=by
 obtain ⟨h,_⟩:=h;rcases h with ⟨a,h⟩|⟨a,b,h⟩|⟨a,b,ss,hp,hs,h⟩
 ·exact .inl ⟨2,.inl ⟨a,rfl⟩,h⟩
 ·exact .inl ⟨3,.inr (.inl ⟨a,b,rfl⟩),h⟩
 have hf:=P6 hB b hp;have I:=Sz b hp;have G:=lR (B:=B) (fs:=Bb B) hp hf hs;rcases h with ⟨ho,h⟩|⟨ho,h⟩
 ·exact .inl ⟨4,.inr (.inr ⟨a,b,.inl ⟨G.1 ho,rfl⟩⟩),h⟩
 have E:∀p,p<256->(Bb B).countP (λs=>cov s p)<=1:=λp H=>by
  apply tf;intro hx;obtain ⟨i,hi,hh⟩:=G.2 ⟨p,H,om⟩;exact ho i hi hh
 have D:Ad B=BV B ss:=Yq hp hf ho;have C:Su (AO B 24 8) ss↔QE (AO B 24 8) (Ad B):=by rw [D];exact Yl hf I _ (BP hB 24 8 om).1
 rcases h with ⟨he,h⟩|⟨he,g,gc,h1,h2⟩
 ·exact .inl ⟨5,.inr (.inr ⟨a,b,.inr ⟨E,λx=>he (C.2 x),rfl⟩⟩),h⟩
 ·rw [<-D] at h1 h2;exact .inr ⟨⟨a,b,E,C.1 he⟩,g,gc,h1,h2⟩
def dK (h:Ht B w e w'):
  (∃c,Bad B c/\e=NT c)\/(MP B/\∃g gc,e= .returned (.tuple #[sL g 0 (Ad B).length gc,uV (AO B 24 8),iV 0])/\w'.ownsRow w.heap.size 136 258 (sL g 0 (Ad B).length gc) (Ad B).length (As (Ad B))):=by
 obtain ⟨h,_⟩:=h;rcases h with ⟨a,h⟩|⟨a,b,h⟩|⟨a,b,(⟨x,h⟩|⟨x,(⟨y,h⟩|⟨y,g,gc,h1,h2⟩)⟩)⟩
 ·exact .inl ⟨2,.inl ⟨a,rfl⟩,h⟩
 ·exact .inl ⟨3,.inr (.inl ⟨a,b,rfl⟩),h⟩
 ·exact .inl ⟨4,.inr (.inr ⟨a,b,.inl ⟨x,rfl⟩⟩),h⟩
 ·exact .inl ⟨5,.inr (.inr ⟨a,b,.inr ⟨x,y,rfl⟩⟩),h⟩
 ·exact .inr ⟨⟨a,b,x,y⟩,g,gc,h1,h2⟩
def Kd (h:MP B):∀p∈Ad B,0<=p.perm/\p.perm<=255/\p.bytes.length=256:=by
 intro p hp;refine ⟨?_,?_,MO _ _ _ p hp⟩<;>
 ·obtain ⟨n,_,hq⟩:=sy.1 hp;obtain ⟨s,hs,rfl⟩:=yt.1 hq;have:=Sz h.2.1 (List.Perm.refl _) s (vk.1 hs).1;show _<=_;simp only;omega
def QG:∀(PS:List Pg) (j i:Nat) (q:Pg),(∀p∈PS,p.bytes.length=256)->PS[j]? =some q->i<258->∀v,(Av q.num q.perm q.bytes)[i]? =some v->(BH PS)[j*258+i]? =some v
 |[],j,i,q,_,h,_,v,_=>by simp at h
 |a::r,0,i,q,hb,h,hi,v,hv=>by
  have e:a=q:=sU h;subst e
  rw [BH,vi,zo (by rw [Ci,hb _ ym];omega),Nat.zero_mul,zq];exact hv
 |a::r,j+1,i,q,hb,h,hi,v,hv=>by
  have ih:=QG r j i q (λp hp=>hb p (ut _ hp)) (sU h) hi v hv;have hl:=hb a ym;have e:(j+1)*258+i-(256+2)=j*258+i:=om;have e2:BH (a::r)=Av a.num a.perm a.bytes++BH r:=by rw [BH,vi];rfl
  rw [e2,zn (by rw [Ci,hl];omega),Ci,hl,e];exact ih
def iD (hb:∀p∈PS,p.bytes.length=256) (h:W.ownsRow base 164 258 (sL g 0 PS.length gc) PS.length (BH PS)):If W g PS:=by
 intro i p hp;have hi:=(zy.1 hp).1;have C:=hb p (zv hp)
 have c:∀j v,j<258->(Av p.num p.perm p.bytes)[j]? =some v->W.cell? (xK g (i*258+j))=some v:=λj v hj hv=>by
  (rw [h.cellAt (i*258+j) om];exact QG PS i j p hb hp hj v hv)
 have c0:=c 0 _ om rfl;rw [sq] at c0;have c1:=c 1 _ om rfl;refine ⟨c0,c1,λj v hv=> ?_⟩;have hj:=(zy.1 hv).1;rw [AG,C] at hj;have e:i*258+2+j=i*258+(j+2):=om;have h9:=c (j+2) v om hv;rw [<-e] at h9;exact h9
def UG (hb:∀p∈PS,p.bytes.length=256) (h:W.ownsRow base 136 258 (sL g 0 PS.length gc) PS.length (As PS)):Bs W g PS:=by
 intro i p hp;have hi:=(zy.1 hp).1;have C:=hb p (zv hp)
 have c:∀j v,j<258->(AY p.num p.perm p.bytes)[j]? =some v->W.cell? (xK g (i*258+j))=some v:=λj v hj hv=>by
  (rw [h.cellAt (i*258+j) om];exact I9 PS i j p hb hp hj v hv)
 have c0:=c 0 _ om rfl;rw [sq] at c0;have c1:=c 1 _ om rfl;refine ⟨c0,c1,λj v hv=> ?_⟩;have hj:=(zy.1 hv).1;rw [AG,C] at hj;have e:i*258+2+j=i*258+(j+2):=om;have h9:=c (j+2) v om hv;rw [<-e] at h9;exact h9
def QI (cap:Nat) (w:World):cT 135 #[.slice a 0 cap] w λe w'=>e= .returned (.tuple #[iV 0,.bool false])/\w'=w:=by
 go_enter func135,ntmps135;go_wp2
 go_ret2
 exact ⟨rfl,rfl⟩
def SH (cap:Nat) (w:World):cT 84 #[.slice a 0 cap] w λe w'=>Ht [] w e w':=by
 have HH:=AC (QI a cap w);go_enter func84,ntmps84
 go_wp2_with fail
 refine HH.mono ?_;rintro e w1 ⟨rfl,C⟩;subst C;go_wp2;exact xh (v:= .tuple #[sN,uV 0,iV 2]) (by simp [results,results84,go_sem]) rfl ⟨.inl ⟨λh=>by have:=h.1;simp at this,rfl⟩,zw _ _⟩
def dO {c:List Int} (h:Iz w v c) (hB:AK c) (hl:c.length<=400000):cT 84 #[v] w λe w'=>Ht c w e w':=by
 rcases h with ⟨rfl,rfl⟩|⟨_,q,rfl,hh⟩
 ·exact SH none 0 w
 ·refine iC q 0 c.length c w hB (zx _) om (λj hj=> ?_) hh.lt;rw [zq];exact hh.bytes j hj
def MQ {base size n g cap:Nat} {e:TypeId}:∀(vs:List Value) (o:Nat) (w:World) (xs:List Value),w.ownsRow base e size (sL g 0 n cap) n xs->o+vs.length<=xs.length->
  (w.setCells g o vs).ownsRow base e size (sL g 0 n cap) n (splice xs o vs)/\w.grownBy (w.setCells g o vs) (some g)
 |[],o,w,xs,h,_=>by rw [En];exact ⟨h,zj _ _⟩
 |v::r,o,w,xs,h,hl=>by
  have C:o+(r.length+1)<=xs.length:=hl;obtain ⟨h1,h2⟩:=h.stored o v;obtain ⟨h3,h4⟩:=MQ r (o+1) _ _ h1 (by rw [yu];omega)
  have e:splice (xs.set o v) (o+1) r=splice xs o (v::r):=by
   have a:=Hc xs o [v] 0 v rfl sO;simp only [List.take_zero,En,sq,zq] at a;rw [a,show (List.take 1 [v])=[v] from rfl];exact GN xs o [v] r sO
  rw [e] at h3;exact ⟨h3,Em h2 h4⟩
def Ii:List Value:=List.replicate 16 (uV 0)
def Ij (PR:List Value) (i:Nat) (pv:Value) (E sp:Int):List Value:=
 (splice ((PR.set (i*31+22) pv).set (i*31+5) (uV E)) (i*31+6) Ii).set (i*31+21) (uV sp)
def bN (PR:List Value) (PL:List Nat):Prop:=PR.length=PL.length*31/\∀(j n:Nat),PL[j]? =some n->∃b d,PR[j*31+22]? =some (.slice b n d)
def fileOf (k:RK) (cs:List (List Int)) (s:ByteArray):List Int:=cs.getD (BO k.inos (AH k.inos s).n).toNat []
def ExecErr (k:RK) (cs:List (List Int)) (PL:List Nat) (i:Nat) (s:ByteArray) (ss:List ByteArray) (c:Int):Prop:=
 (AH k.inos s).e≠0/\c=(AH k.inos s).e\/(AH k.inos s).e=0/\((AH k.inos s).n=0/\c=9\/(AH k.inos s).n≠0/\(Ce k.inos (AH k.inos s).n=true/\c=11\/
  Ce k.inos (AH k.inos s).n=false/\(Bad (fileOf k cs s) c\/MP (fileOf k cs s)/\(Cv ss=false/\c=6\/
   Cv ss=true/\k.lf<(PL.sum:Int)-(PL.getD i 0:Int)+((Ad (fileOf k cs s)).length:Int)+2/\c=7))))
def ExecOk (k:RK) (cs:List (List Int)) (PL:List Nat) (i:Nat) (s:ByteArray) (ss:List ByteArray):Prop:=
 (AH k.inos s).e=0/\(AH k.inos s).n≠0/\Ce k.inos (AH k.inos s).n=false/\MP (fileOf k cs s)/\Cv ss=true/\(PL.sum:Int)-(PL.getD i 0:Int)+((Ad (fileOf k cs s)).length:Int)+2<=k.lf
def Vr (base gp pn pc:Nat) (k:RK) (cs:List (List Int)) (PL:List Nat) (PR:List Value) (i:Nat) (s:ByteArray) (ss:List ByteArray) (w:World) (e:Ending) (w':World):Prop:=
 (∃c,ExecErr k cs PL i s ss c/\e= .returned (.tuple #[iV 0,iV c])/\Bw w w')\/
 (ExecOk k cs PL i s ss/\e= .returned (.tuple #[iV 0,iV 0])/\w.grownBy w' (some gp)/\∃gn cn,w'.ownsRow w.heap.size 136 258 (sL gn 0 ((Ad (fileOf k cs s)).length+2) cn) ((Ad (fileOf k cs s)).length+2) (As (Ad (fileOf k cs s))++ED (AS ss) 2)/\
  w'.ownsRow base 78 31 (sL gp 0 pn pc) pn (Ij PR i (sL gn 0 ((Ad (fileOf k cs s)).length+2) cn) (AO (fileOf k cs s) 24 8) (65024+(Dc ss:Int))))
def MR {gp pn pc:Nat} {PR:List Value} (hp:bN PR PL) (hv:v= sL gp 0 pn pc) (h:w.ownsRow base 78 31 (sL gp 0 pn pc) pn PR):Iy w v PL:=by
 have hl:pn=PL.length:=by have h1:=hp.1;have h2:=h.1;omega
 refine ⟨some (xK gp 0),pc,by rw [hv,hl],λi n hn=> ?_⟩;obtain ⟨b,d,hb⟩:=hp.2 i n hn;have hi:=(zy.1 hn).1;exact ⟨gp,b,d,rfl,(h.lt gp rfl).2,by rw [h.cellAt _ om];exact hb⟩
def Fh {e:Nat} (h:w.ownsRow base e size (sL g 0 n cap) n xs) (j:Nat) (hj:j<n*size):∃v,w.cell? (xK g j)=some v/\w.frozen? (xK g j)=false:=by
 refine ⟨xs[j]'(by rw [h.1];exact hj),?_,h.frozenAt j⟩;rw [h.cellAt j hj];exact zz _
def dP {e:Nat} (h:w.ownsRow base e size (sL g 0 n cap) n xs) (o m:Nat) (hj:o+m<=n*size):w.there g o m:=λj hm=>by
 obtain ⟨v,h1,h2⟩:=Fh h (o+j) om;exact ⟨by rw [h1];rfl,h2⟩
def QN (R:List Int):∀u∈ED R 2,u.oneCell'=true:=by
 intro u hu;have C:u∈AY 254 6 (R.take 256)++AY 255 6 (R.drop 256):=hu;rcases vo.1 C with h|h
 ·exact D8 _ _ _ u h
 ·exact D8 _ _ _ u h
def iH:(prog.info? 74).map (·.size)=some Ii.toArray.size:=kf
def dQ:Ii.toArray.all (·.oneCell')=true:=all_oneCell_toArray (λv hv=>by obtain rfl:=qt hv;rfl)
def LY {l:List Nat} (h:n∈l):n<=l.sum:=by
 induction l with
 |nil=>simp at h
 |cons a r ih=>
  rw [rz];rcases vp.1 h with rfl|h
  ·omega
  ·have:=ih h;omega
def OG (base kb g cap gp pn pc i:Nat) (k:RK) (cs:List (List Int)) (PL:List Nat) (PR:List Value) (on oc:Nat) (oa:Option Addr) (s:ByteArray) (a:Option Addr) (ab D M:Nat) (ss:List ByteArray) (w:World)
  (h:EB w base kb g cap k) (hc:DA w k.inos cs) (hi:Ia k) (a5:∀c∈cs,AK c/\c.length<=400000) (n1:k.pv= sL gp 0 pn pc) (h6:w.ownsRow base 78 31 (sL gp 0 pn pc) pn PR) (j4:bN PR PL) (p3:i<pn)
  (l3:k.ov= .slice oa on oc) (n8:kb<base) (n6:base<=w.heap.size) (hn:k.inos.length<=10000) (hs:s.size<=maxLen) (m1:(cs.map List.length).sum<=1000000) (p4:pn<=1000) (o4:PL.sum<=1000000)
  (j0:ss.length<=1000) (ha:0<ss.length->a=some (xK ab D)) (m5:ab<w.heap.size) (k1:∀j,j<ss.length->w.cell? (xK ab (D+j))=some (.string (ss.getD j ByteArray.empty))) (j3:∀x∈ss,x.size<=maxLen):
  cT 42 #[qP kb 0,qP gp (i*31),.string s,.slice a ss.length M] w λe w'=>Vr base gp pn pc k cs PL PR i s ss w e w':=by
 have n3:=h.2.lt g rfl;have o6:=h6.lt gp rfl;have m4:=h.1.lt;have HW:=AC (Je kb g cap k.inos s w h.at m4 n3.2 om hs);obtain ⟨H,HC,HI,l2,c1,d4,HA,l5⟩:=H8 h hc hi a5 h6 j4 ha k1;have m8:=AC j3;obtain ⟨r,hr⟩:=xE (AH k.inos s);rw [<-hr] at HW;have HR:=AC hr;clear h hc hi a5 h6 j4 ha k1 j3 hs hr;obtain ⟨dir,name,n,e⟩:=r;unfold Pa at HW;go_enter func42,ntmps42
 go_wp2_with fail
 refine HW.mono ?_;rintro e' w1 ⟨rfl,i2⟩;have V:=AC i2;have p0:=i2.size;clear i2 HW;simp only;by_cases t1:e=0
 case neg=>
  have g1:(e !=0)=true:=sU t1;have HX:=AC (show ExecErr k cs PL i s ss e from .inl (by rw [<-AB HR];exact ⟨t1,rfl⟩));clear t1;go_wp2
  go_ret2
  exact .inl ⟨e,AB HX,rfl,AB V⟩
 have g1:(e !=0)=false:=sU t1;have HE:=AC (show (AH k.inos s).e=0 from by rw [<-AB HR];exact t1);clear t1;by_cases t2:n=0
 ·have g2:(n==0)=true:=sU t2;have HX:=AC (show ExecErr k cs PL i s ss 9 from .inr ⟨AB HE,.inl ⟨by rw [<-AB HR];exact t2,rfl⟩⟩);clear t2;go_wp2
  go_ret2
  exact .inl ⟨9,AB HX,rfl,AB V⟩
 have g2:(n==0)=false:=sU t2;have a1:=AC (show (AH k.inos s).n≠0 from by rw [<-AB HR];exact t2);have b9:(AH k.inos s).n=n:=by rw [<-AB HR]
 obtain ⟨x,hx⟩:=Tw (gh HI s HE a1);rw [b9] at hx;obtain ⟨K,hK,a8⟩:=Fo hx;have l7:=(zy.1 a8).1;have d0:Ce k.inos n=x.dir:=by unfold Ce;rw [hx]
 obtain ⟨c0,d7⟩:∃c,cs[K]? =some c:=⟨_,zz (by rw [HC.1];exact l7)⟩;have j1:fileOf k cs s=c0:=by rw [fileOf,b9,hK,Int.toNat_natCast,List.getD,d7];rfl
 have d3:=AC (H.below V);have c3:w1.cell? (xK g (K*5+3))=some (.bool x.dir):=d3.at.cell a8 (i:=3) om rfl;have c4:w1.cell? (xK g (K*5+4))=some x.bytes:=d3.at.cell a8 (i:=4) om rfl;have c7:cE w1 kb 7 (sL g 0 k.inos.length cap):=d3.1.cell rfl;have d8:=AC (Gm kb g cap k.inos n w1 d3.at om);rw [hK] at d8;have o9:(0:Int)<=(K:Int):=om;have n9:(K:Int)<(k.inos.length:Int):=om;have a2:=AC j1;have i7:=AC b9;have f7:=(HC.frame (Ao.ofBelow (a:=kb) (b:=g) V) H.apart.1 H.apart.2).2 K x c0 a8 d7;have a5:=AB l2 c0 (zv d7);have g9:=AC (dO f7 a5.1 a5.2);obtain ⟨xa,xd,j9⟩:=f7.len;rw [j9] at c4 g9;clear t2 hx hK a8 d7 j1 b9 f7 a5 j9;by_cases td:x.dir=true
 ·rw [td] at c3;have HX:=AC (show ExecErr k cs PL i s ss 11 from .inr ⟨AB HE,.inr ⟨AB a1,.inl ⟨by rw [AB i7,d0];exact td,rfl⟩⟩⟩);clear d0 td
  go_wp2_with fail
  refine d8.mono ?_;rintro e' w3 ⟨rfl,h0⟩;subst h0;go_wp2
  go_ret2
  exact .inl ⟨11,AB HX,rfl,AB V⟩
 have g0:x.dir=false:=sU td;rw [g0] at c3;have c9:=AC (show Ce k.inos (AH k.inos s).n=false from by rw [AB i7,d0];exact g0);clear td g0 d0
 go_wp2_with fail
 refine d8.mono ?_;rintro e' w3 ⟨rfl,h0⟩;subst h0
 go_wp2_with fail
 refine g9.mono ?_;intro e' w4 c6;have i1:=c6.2;have o8:=i1.size;have a4:=AC (V.trans (i1.mono om));rcases dK c6 with ⟨c,X,rfl⟩|⟨G,gq,cq,rfl,N⟩
 ·have b2:=X.code;have g3:(c !=0)=true:=sO;have HX:=AC (show ExecErr k cs PL i s ss c from .inr ⟨AB HE,.inr ⟨AB a1,.inr ⟨AB c9,.inl (by rw [AB a2];exact X)⟩⟩⟩);unfold NT;clear c6 i1 X b2;go_wp2
  go_ret2
  exact .inl ⟨c,AB HX,rfl,AB a4⟩
 have i3:=AC (show MP (fileOf k cs s) from by rw [AB a2];exact G);have U:=AC N;have n7:=N.lt gq rfl;have m9:(Ad c0).length<=256:=Hg G.2.2.1;obtain ⟨n0,d5⟩:=xE ((Ad c0).length);rw [<-d5] at U m9;rw [<-d5];have d9:=AC d5;obtain ⟨E,hE⟩:=xE (AO c0 24 8);rw [<-hE];have m3:=AC hE;clear c6 G N d5 hE;have I:∀j,j<ss.length->w4.cell? (xK ab (D+j))=some (.string (ss.getD j ByteArray.empty)):=λj hj=>by rw [a4.cell (p:=(xK ab (D+j))) m5];exact AB l5 j hj
 by_cases a7:Cv ss=true
 case neg=>
  have Z:Cv ss=false:=sU a7;have f3:=AC (SJ a ab D M ss w4 j0 HA I m8 Z);have HX:=AC (show ExecErr k cs PL i s ss 6 from .inr ⟨AB HE,.inr ⟨AB a1,.inr ⟨AB c9,.inr ⟨AB i3,.inl ⟨Z,rfl⟩⟩⟩⟩⟩);clear a7 Z I
  go_wp2_with fail
  refine f3.mono ?_;rintro e' w5 ⟨rfl,l6⟩;subst l6;go_wp2
  go_ret2
  exact .inl ⟨6,AB HX,rfl,AB a4⟩
 have f3:=AC (dN a ab D M ss w4 j0 HA (o1 a4.size) I a7);have j6:=AC a7;clear a7 I
 go_wp2_with fail
 refine f3.mono ?_;rintro e' w5 ⟨g5,c5,rfl,L,h8⟩;have f0:=AC (a4.trans (h8.mono a4.size));have f9:=AC L;have b8:=AC (Aw U (AC h8));have p5:=L.lt g5 rfl;have k3:=AC (H.below f0);have a9:=AC (Aw c1 f0);have i5:Iy w5 k.pv PL:=MR d4 n1 a9;have j8:=AC (GV base kb g cap k PL (cs.map List.length) oa on oc w5 k3 i5 l3 HC.lens om (o2 d4.1 c1.1) om om);clear L h8 i5 f3 U g9 d8
 go_wp2_with fail
 refine j8.mono ?_;rintro e' w6 ⟨rfl,h3⟩;simp only [BK];have l0:=h3.size;obtain ⟨US,i9⟩:=xE ((cs.map List.length).sum);rw [<-i9];obtain ⟨PS,f1⟩:=xE PL.sum;rw [<-f1];obtain ⟨W,hW⟩:=xE (w6.alloc (Obj.cells #[iV (PL.length:Int),iV (PS:Int),iV (on:Int),iV (k.inos.length:Int),iV (US:Int)] 68));have xb:W.cell? (xK w6.heap.size 1)=some (iV (PS:Int)):=by rw [hW];exact (AE.new w6 68 [iV (PL.length:Int),iV (PS:Int),iV (on:Int),iV (k.inos.length:Int),iV (US:Int)]).cell rfl
 have a0:Bw w5 W:=h3.trans (by rw [hW];exact (zw _ _).alloc l0 _);have p2:=a0.size;have a6:=AC (f0.trans (a0.mono f0.size));have k6:=AC (k3.below a0);have b1:=AC (Aw a9 (AC a0));have g7:=AC (Aw b8 (AC a0));have Y:=AC (Aw f9 (AC a0));have b4:PL.length=pn:=by have h1:=d4.1;have h2:=c1.1;omega
 obtain ⟨NP,f2⟩:∃NP,PL[i]? =some NP:=⟨_,zz om⟩;obtain ⟨pb,pd,i4⟩:=d4.2 i NP f2;have l9:W.cell? (xK gp (i*31+22))=some (.slice pb NP pd):=by rw [b1.cellAt _ om];exact i4
 have d1:cE W kb 1 (iV k.lf):=k6.1.cell rfl;have o0:NP<=PS:=by rw [f1];exact LY (zv f2)
 have m2:PS<=1000000:=om;have d6:=AC (xi f1 (show PL.getD i 0=NP from by rw [List.getD,f2];rfl));have i8:=AC hW;clear h3 i9 f1 a0 f2 i4 j8 c3 c4 c7 hW b4;by_cases t7:k.lf<(PS:Int)-(NP:Int)+(n0:Int)+2
 ·have HX:=AC (show ExecErr k cs PL i s ss 7 from .inr ⟨AB HE,.inr ⟨AB a1,.inr ⟨AB c9,.inr ⟨AB i3,.inr ⟨AB j6,by rw [AB a2,<-AB d9,<-d6.1,d6.2];exact t7,rfl⟩⟩⟩⟩⟩);go_wp2;rw [<-AB i8]
  go_quiet (fail)
  go_wp2
  go_ret2
  exact .inl ⟨7,AB HX,rfl,⟨a6.os,a6.tape,a6.output,a6.size,a6.block⟩⟩
 ·go_wp2;rw [<-AB i8]
  go_quiet (fail)
  have m0:=AC (show ExecOk k cs PL i s ss from ⟨AB HE,AB a1,AB c9,AB i3,AB j6,by rw [AB a2,<-AB d9,<-d6.1,d6.2];omega⟩);obtain ⟨ip,i6,b0,b6,b5⟩:=info_parts Jo;have f6:=AC (xi i6 (xi b0 (xi b6 b5)));have f8:(ED (AS ss) 2).length=2*258:=o1 Y.1;have i0:∀u∈ED (AS ss) 2,u.oneCell'=true:=QN _;obtain ⟨SR,g6⟩:=xE (ED (AS ss) 2);rw [<-g6] at Y f8 i0;have m6:=AC g6;have k2:=AC (xi f8 i0)
  have k8:=AC (show ∀j u,SR[j]? =some u->(W.drewN nq).cell? (((xK g5 0):Addr).add j)=some u from λj u hj=>by
   have hl:=(zy.1 hj).1;rw [Ah,zq];have h9:W.cell? (xK g5 j)=some u:=by rw [Y.cellAt j om];exact hj
   exact h9)
  have HQ:Hid ((W.drewN nq).ownsRow w3.heap.size 136 258 (sL gq 0 n0 cq) n0 (As (Ad c0))):=AB g7;have k5:Hid ((W.drewN nq).ownsRow base 78 31 (sL gp 0 pn pc) pn PR):=AB b1;have h5:w3.heap.size<=(W.drewN nq).heap.size:=by show w3.heap.size<=W.heap.size;omega
  have g4:gp≠gq:=om;clear i6 b0 b6 b5 f8 i0 g6 l9 d1 xb
  go_wp2_with (first
   |(at_builtin;refine wpList_append_lies _ (by rfl) _ _ 75 (by rfl) w3.heap.size 136 ip _ 258 272 underlying75 f6.1 f6.2.1 f6.2.2.1 f6.2.2.2 (by simp [Value.cells,Ac,AT]) dz _ n0 _ (by rfl) (AB HQ) (xK g5 0) 2 c5 SR (by rfl) k2.1 (AB k8) k2.2 om (by unfold maxLen;omega) om h5 W.heap.size (by rfl) ?_
     intro g8 c8 w8 J C l4 n2;have r8:=k5.kept C (.inr (by show some gp≠some gq;simpa using g4));obtain ⟨r9,q9⟩:=r8.stored (i*31+22) (sL g8 0 (n0+2) c8);obtain ⟨h4,f4⟩:=r9.stored (i*31+5) (uV E);obtain ⟨d2,b7⟩:=MQ Ii (i*31+6) _ _ h4 (by simp only [yu];rw [c1.1];simp [Ii];omega);obtain ⟨j7,T⟩:=xE (((w8.setCell (xK gp (i*31+22)) (sL g8 0 (n0+2) c8)).setCell (xK gp (i*31+5)) (uV E)).setCells gp (i*31+6) Ii.toArray.toList);have k0:((w8.setCell (xK gp (i*31+22)) (sL g8 0 (n0+2) c8)).setCell (xK gp (i*31+5)) (uV E)).setCells gp (i*31+6) Ii=j7:=T.symm;rw [k0] at d2 b7;have h7:=AC T;clear k0 T;obtain ⟨k4,c2⟩:=d2.stored (i*31+21) (uV (65024+(Dc ss:Int)));have j5:=Fh r8 (i*31+22) om;have z5:=Fh r9 (i*31+5) om;have j2:=Fh d2 (i*31+21) om;have zt:=dP h4 (i*31+6) 16 om;obtain ⟨p1,j5,o7⟩:=j5;obtain ⟨o5,z5,f5⟩:=z5;obtain ⟨o3,j2,n5⟩:=j2
     have ZT:=AC zt;have n4:=AC k4;have l1:=AC (xi q9 (xi f4 (xi b7 c2)))
     clear r8 r9 h4 d2 k4 q9 f4 b7 c2 zt)
   |(refine wpList_store_mid rfl 74 (.tmp 104) (.tmp 102) rfl gp (i*31+6) Ii.toArray (by rfl) (by rfl) (AB ZT) iH dQ ?_;rw [<-AB h7]))
  obtain ⟨q9,f4,b7,c2⟩:=AB l1;have a3:=Em (Em (Em q9 f4) b7) c2;have p6:=J.lt g8 rfl;have l8:w.heap.size<=w3.heap.size:=V.size;have O:=AB a6;have b3:=C.size
  have k9:w.grownBy (j7.setCell (xK gp (i*31+21)) (uV (65024+(Dc ss:Int)))) (some gp):=
   ⟨a3.os.trans (C.os.trans O.os),a3.tape.trans (C.tape.trans O.tape),a3.output.trans (C.output.trans O.output),zg O.size (zg b3 a3.size),λq hq k7=>
    (a3.block q (by have:W.heap.size<=w8.heap.size:=b3;have:=O.size;omega) k7).trans ((C.block q (by show q<W.heap.size;have:=O.size;omega) (by show some q≠some gq;simp;omega)).trans (O.block q hq))⟩
  have m7:=EN (base':=w.heap.size) (J.kept a3 (.inr (by show some g8≠some gp;simp;omega))) l8
  go_ret2
  refine .inr ⟨AB m0,rfl,k9,g8,c8,?_,?_⟩
  ·rw [AB a2,<-AB d9,<-AB m6];exact m7
  ·rw [AB a2,<-AB d9,<-AB m3];exact AB n4
structure AQ where
 path:ByteArray
 dir:Bool
 bytes:List Int
def PK.put (p:PK) (f:AQ):Int×PK:=if f.dir=true then p.mkdir f.path else (p.fileCode f.path f.bytes,p.fileOut f.path f.bytes)
def PK.puts:PK->List AQ->Int×PK
 |p,[]=>(0,p)
 |p,f::r=>if (p.put f).1≠0 then ((p.put f).1,p) else (p.put f).2.puts r
structure Pb (w:World) (pb poff db doff bb boff:Nat) (FZ:List AQ):Prop where
 path:∀(i:Nat) (f:AQ),FZ[i]? =some f->w.cell? (xK pb (poff+i))=some (.string f.path)
 dir:∀(i:Nat) (f:AQ),FZ[i]? =some f->w.cell? (xK db (doff+i))=some (.bool f.dir)
 bytes:∀(i:Nat) (f:AQ),FZ[i]? =some f->∃a q o c,w.cell? (xK bb (boff+i))=some (.slice a f.bytes.length c)/\(0<f.bytes.length->a=some (xK q o)/\q<w.heap.size)/\Am w q o f.bytes
def F8 (lp lf lo li lb:Int):Prop:=1<=lp/\lp<=16/\1<=lf/\lf<=1000/\0<=lo/\lo<=100000/\0<=li/\li<=100000/\0<=lb/\lb<=100000
def Js (c:Int):Ending:= .returned (.tuple #[.pointer none,iV c])
def root:Ino:=⟨1,0,ByteArray.empty,true,sN⟩
def CP (lp lf lo li lb:Int):PK:=⟨lp,lf,lo,li,lb,1,[root],[[]]⟩
def UL (lp lf lo li lb:Int) (v1 v2 v3:Value) (w:World) (h:¬F8 lp lf lo li lb):
  cT 18 #[.agg #[iV lp,iV lf,iV lo,iV li,iV lb],v1,v2,v3] w λe w'=>e=Js 6/\Bw w w':=by
 have C:∀(o1 o2:Obj),Bw w ((w.alloc o1).alloc o2):=λo1 o2=>bA.alloc sI _;have HF:=AC C;clear C;by_cases a1:1<=lp
 case neg=>
  clear h;go_enter func18,ntmps18;go_wp2
  go_ret2
  exact ⟨rfl,AB HF _ _⟩
 by_cases a2:lp<=16
 case neg=>
  clear h;go_enter func18,ntmps18;go_wp2
  go_ret2
  exact ⟨rfl,AB HF _ _⟩
 by_cases a3:1<=lf
 case neg=>
  clear h;go_enter func18,ntmps18;go_wp2
  go_ret2
  exact ⟨rfl,AB HF _ _⟩
 by_cases a4:lf<=1000
 case neg=>
  clear h;go_enter func18,ntmps18;go_wp2
  go_ret2
  exact ⟨rfl,AB HF _ _⟩
 by_cases a5:0<=lo
 case neg=>
  clear h;go_enter func18,ntmps18;go_wp2
  go_ret2
  exact ⟨rfl,AB HF _ _⟩
 by_cases a6:lo<=100000
 case neg=>
  clear h;go_enter func18,ntmps18;go_wp2
  go_ret2
  exact ⟨rfl,AB HF _ _⟩
 by_cases a7:0<=li
 case neg=>
  clear h;go_enter func18,ntmps18;go_wp2
  go_ret2
  exact ⟨rfl,AB HF _ _⟩
 by_cases a8:li<=100000
 case neg=>
  clear h;go_enter func18,ntmps18;go_wp2
  go_ret2
  exact ⟨rfl,AB HF _ _⟩
 by_cases a9:0<=lb
 case neg=>
  clear h;go_enter func18,ntmps18;go_wp2
  go_ret2
  exact ⟨rfl,AB HF _ _⟩
 by_cases D:lb<=100000
 case neg=>
  clear h;go_enter func18,ntmps18;go_wp2
  go_ret2
  exact ⟨rfl,AB HF _ _⟩
 exact absurd ⟨a1,a2,a3,a4,a5,a6,a7,a8,a9,D⟩ h
def rk0 (lp lf lo li lb:Int):RK:=⟨lp,lf,lo,li,lb,sN,sN,sN,sN,sN,sN,[],0⟩
def rk1 (lp lf lo li lb:Int):RK:={rk0 lp lf lo li lb with inos:=[root],last:=1}
def lX (lp lf lo li lb:Int):Ia (rk1 lp lf lo li lb):=by
 refine ⟨λx hx=> ?_,⟨root,by simp [rk1],rfl⟩,si 1⟩;have:x=root:=by simpa [rk1] using hx
 subst this;exact si 1
def Jd (lp lf lo li lb:Int) (k:RK):Prop:={k with inos:=[],last:=0}=rk0 lp lf lo li lb
def Jd.add (h:Jd lp lf lo li lb k) (dir:Int) (name:ByteArray) (is:Bool):Jd lp lf lo li lb (k.add dir name is):=h
def Jd.pv (h:Jd lp lf lo li lb k):k.pv= sN:=congrArg RK.pv h
def Jd.ov (h:Jd lp lf lo li lb k):k.ov= sN:=congrArg RK.ov h
def Jd.opened (h:Jd lp lf lo li lb k) (cs:List (List Int)) (s:ByteArray):Jd lp lf lo li lb (Ag k cs s).1:=by
 unfold Ag;split
 ·exact h.add _ _ _
 ·exact h
def Jd.file {k':RK} (h:Jd lp lf lo li lb k) (hk:{k' with inos:=[]}={(Ag k cs s).1 with inos:=[]}):Jd lp lf lo li lb k':=by
 have h1:=h.opened cs s;unfold Jd at h1 ⊢;rw [<-h1];exact congrArg (λx:RK=>{x with last:=0}) hk
def Jd.mkdir (h:Jd lp lf lo li lb k) (s:ByteArray):Jd lp lf lo li lb (Cr k s).2:=by
 unfold Cr;split
 ·exact h
 split
 ·exact h
 split
 ·exact h
 ·exact h.add _ _ _
def NW {p q:PK} {FZ:List AQ} {f:AQ} (h:p.puts (FZ.take j)=(0,q)) (hf:FZ[j]? =some f) (h1:(q.put f).1=0):p.puts (FZ.take (j+1))=(0,(q.put f).2):=by
 have e:FZ.take (j+1)=FZ.take j++[f]:=by rw [uw,hf];rfl
 rw [e];generalize FZ.take j=l at h
 induction l generalizing p with
 |nil=>
  have:p=q:=by have:=congrArg Prod.snd h;exact this
  subst this;show PK.puts p [f]=_;unfold PK.puts
  rw [vz (by rw [h1];decide)];rfl
 |cons a r ih=>
  show PK.puts p (a::(r++[f]))=_;unfold PK.puts at h ⊢;split at h
  ·rename_i hx
   exact absurd (congrArg Prod.fst h) hx
  ·rename_i hx
   rw [vz hx];exact ih h
def NX {p q:PK} {FZ:List AQ} {f:AQ} (h:p.puts (FZ.take j)=(0,q)) (hf:FZ[j]? =some f) (h1:(q.put f).1≠0):(p.puts FZ).1=(q.put f).1:=by
 have e:FZ=FZ.take j++f::FZ.drop (j+1):=by
  obtain ⟨hl,hg⟩:=zy.1 hf;have e2:FZ.drop j=f::FZ.drop (j+1):=by rw [un hl,hg]
  rw [<-e2,uq]
 rw [e];generalize FZ.drop (j+1)=t;clear e hf;generalize FZ.take j=l at h
 induction l generalizing p with
 |nil=>
  have:p=q:=by have:=congrArg Prod.snd h;exact this
  subst this;show (PK.puts p (f::t)).1=_;unfold PK.puts
  rw [vu h1]
 |cons a r ih=>
  show (PK.puts p (a::(r++f::t))).1=_;unfold PK.puts at h ⊢;split at h
  ·rename_i hx
   exact absurd (congrArg Prod.fst h) hx
  ·rename_i hx
   rw [vz hx];exact ih h
def iL {f:AQ} (hd:f.dir=true):((k.toP cs).put f).1=(Cr k f.path).1/\((Cr k f.path).1=0->((k.toP cs).put f).2=(Cr k f.path).2.toP (cs++[[]])):=by
 unfold PK.put;rw [vu hd];exact dX k cs f.path
def dY {f:AQ} (hd:f.dir=false):((k.toP cs).put f).1=fileCode k cs f.path f.bytes/\∀k':RK,k'.inos.map erase=(Ag k cs f.path).1.inos.map erase->{k' with inos:=[]}={(Ag k cs f.path).1 with inos:=[]}->((k.toP cs).put f).2=k'.toP (F6 k cs f.path f.bytes):=by
 unfold PK.put;rw [vz (by rw [hd];decide)];exact ⟨iK k cs f.path f.bytes,λk' h1 h2=>Vt k k' cs f.path f.bytes h1 h2⟩
def dZ (h:(Cr k s).1=0):(Cr k s).2=k.add (AH k.inos s).dir (AH k.inos s).name true:=by
 unfold Cr at h ⊢;split at h
 ·rename_i h1;exact absurd h h1
 rename_i h1
 rw [vz h1];split at h
 ·exact absurd h (show ¬(10:Int)=0 by decide)
 rename_i h2
 rw [vz h2];split at h
 ·exact absurd h (show ¬(12:Int)=0 by decide)
 rename_i h3
 rw [vz h3]
def F9 (cs:List (List Int)):AM (cs++[[]])=AM cs:=by simp [AM]
def MV:∀(cs:List (List Int)) (K:Nat) (c:List Int),AM (cs.set K c)<=AM cs-(cs.getD K []).length+c.length/\(cs.getD K []).length<=AM cs
 |[],K,c=>by simp [AM]
 |a::r,0,c=>by simp [AM];omega
 |a::r,K+1,c=>by
  have ih:=MV r K c;have e1:AM ((a::r).set (K+1) c)=a.length+AM (r.set K c):=by simp [AM]
  have e2:AM (a::r)=a.length+AM r:=by simp [AM]
  have e3:(a::r).getD (K+1) []=r.getD K []:=sI;rw [e1,e2,e3];omega
def OH (k:RK) (cs:List (List Int)) (s:ByteArray):AM (Ag k cs s).2.1=AM cs:=by
 unfold Ag;split
 ·exact F9 cs
 ·rfl
def Vu (k:RK) (cs:List (List Int)) (s:ByteArray) (B:List Int):AM (F6 k cs s B)<=AM cs+B.length:=by
 unfold F6;split
 ·rw [OH];omega
 ·have h:=MV (Ag k cs s).2.1 (BO (Ag k cs s).1.inos (Ag k cs s).2.2).toNat (Fb (JY (Ag k cs s)) B);rw [Ib (M:=max B.length (JY (Ag k cs s)).length) rfl,OH] at h;have e:JY (Ag k cs s)=(Ag k cs s).2.1.getD (BO (Ag k cs s).1.inos (Ag k cs s).2.2).toNat []:=rfl;rw [<-e] at h;omega
def Bx:AK B↔∀x∈B,0<=x/\x<=255:=by
 constructor
 ·intro h x hx;obtain ⟨j,hj⟩:=yj.1 hx;have:=h j;rw [zk,hj] at this;exact this
 ·intro h j;rw [zk]
  cases hj:B[j]? with
  |none=>exact ⟨si 0,dz⟩
  |some x=>exact h x (zv hj)
def By (cs:List (List Int)):Prop:=∀c∈cs,AK c
def MW:By [[]]:=λc hc=>by
 have:c=[]:=sU hc;subst this;exact Bx.2 (λx hx=>absurd hx sI)
def By.snoc (h:By cs):By (cs++[[]]):=by
 intro c hc;rcases vo.1 hc with h1|h1
 ·exact h c h1
 ·have:c=[]:=sU h1;subst this;exact Bx.2 (λx hx=>absurd hx sI)
def By.opened (h:By cs) (k:RK) (s:ByteArray):By (Ag k cs s).2.1:=by
 unfold Ag;split
 ·exact h.snoc
 ·exact h
def By.file (h:By cs) (k:RK) (s:ByteArray) (hB:AK B):By (F6 k cs s B):=by
 unfold F6;split
 ·exact h.opened k s
 ·intro c hc;rcases rj hc with h1|h1
  ·exact h.opened k s c h1
  ·subst h1
   have ho:AK (JY (Ag k cs s)):=by
    unfold JY;rw [zk]
    cases hg:(Ag k cs s).2.1[(BO (Ag k cs s).1.inos (Ag k cs s).2.2).toNat]? with
    |none=>exact Bx.2 (λx hx=>absurd hx sI)
    |some c=>exact h.opened k s c (zv hg)
   refine Bx.2 (λx hx=> ?_);unfold Fb at hx;rcases vo.1 hx with h2|h2
   ·exact Bx.1 hB x h2
   ·exact Bx.1 ho x (rq h2)
def PK.fileOf (p:PK) (s:ByteArray):List Int:=p.cs.getD (BO p.xs (AH p.xs s).n).toNat []
def PK.ExecErr (p:PK) (PL:List Nat) (i:Nat) (s:ByteArray) (ss:List ByteArray) (c:Int):Prop:=
 (AH p.xs s).e≠0/\c=(AH p.xs s).e\/(AH p.xs s).e=0/\((AH p.xs s).n=0/\c=9\/(AH p.xs s).n≠0/\(Ce p.xs (AH p.xs s).n=true/\c=11\/
  Ce p.xs (AH p.xs s).n=false/\(Bad (p.fileOf s) c\/MP (p.fileOf s)/\(Cv ss=false/\c=6\/
   Cv ss=true/\p.lf<(PL.sum:Int)-(PL.getD i 0:Int)+((Ad (p.fileOf s)).length:Int)+2/\c=7))))
def PK.ExecOk (p:PK) (PL:List Nat) (i:Nat) (s:ByteArray) (ss:List ByteArray):Prop:=
 (AH p.xs s).e=0/\(AH p.xs s).n≠0/\Ce p.xs (AH p.xs s).n=false/\MP (p.fileOf s)/\Cv ss=true/\(PL.sum:Int)-(PL.getD i 0:Int)+((Ad (p.fileOf s)).length:Int)+2<=p.lf
def Hi (k:RK) (cs:List (List Int)) (s:ByteArray):(k.toP cs).fileOf s=Go.Proofs.YtpcjkidgohpeoaaGreatDoor.fileOf k cs s:=by
 unfold PK.fileOf Go.Proofs.YtpcjkidgohpeoaaGreatDoor.fileOf;show cs.getD (BO (k.inos.map erase) (AH (k.inos.map erase) s).n).toNat []=_;rw [FB,IM]
def OI (h:ExecErr k cs PL i s ss c):(k.toP cs).ExecErr PL i s ss c:=by
 unfold PK.ExecErr;rw [Hi,show AH (k.toP cs).xs s=AH k.inos s from FB k.inos s,show ∀n,Ce (k.toP cs).xs n=Ce k.inos n from Hw k.inos];exact h
def QY (h:ExecOk k cs PL i s ss):(k.toP cs).ExecOk PL i s ss:=by
 unfold PK.ExecOk;rw [Hi,show AH (k.toP cs).xs s=AH k.inos s from FB k.inos s,show ∀n,Ce (k.toP cs).xs n=Ce k.inos n from Hw k.inos];exact h
structure QZ (lp lf lo li lb:Int) (w:World) (FZ:List AQ) (j:Nat) (wr:World) (k:RK) (cs:List (List Int)) (g cap:Nat):Prop where
 rep:EB wr (w.heap.size+2) (w.heap.size+1) g cap k
 cont:DA wr k.inos cs
 inv:Ia k
 nils:Jd lp lf lo li lb k
 puts:(CP lp lf lo li lb).puts (FZ.take j)=(0,k.toP cs)
 bytes:By cs
 used:AM cs<=((FZ.take j).map (λf=>f.bytes.length)).sum
 inos:k.inos.length<=j+1
 last:k.last<=j+1
 below:Bw w wr
def Qa (lp lf lo li lb:Int) (w:World) (FZ:List AQ) (j:Nat) (wr:World):Prop:=∃k cs g cap,QZ lp lf lo li lb w FZ j wr k cs g cap
def QZ.drew {FZ:List AQ} (h:QZ lp lf lo li lb w FZ j wr k cs g cap):QZ lp lf lo li lb w FZ j wr.drew k cs g cap:=
 ⟨h.rep.heap rfl,h.cont,h.inv,h.nils,h.puts,h.bytes,h.used,h.inos,h.last,⟨h.below.os,h.below.tape,h.below.output,h.below.size,h.below.block⟩⟩
def Qa.drew {FZ:List AQ} (h:Qa lp lf lo li lb w FZ j wr):Qa lp lf lo li lb w FZ j wr.drew:=by
 obtain ⟨k,cs,g,cap,h⟩:=h;exact ⟨k,cs,g,cap,h.drew⟩
def IN {FZ:List AQ} {f:AQ} (hf:FZ[j]? =some f):((FZ.take (j+1)).map (λf=>f.bytes.length)).sum=((FZ.take j).map (λf=>f.bytes.length)).sum+f.bytes.length:=by
 rw [uw,hf];simp
def Gq (FZ:List AQ) (j:Nat):((FZ.take j).map (λf=>f.bytes.length)).sum<=(FZ.map (λf=>f.bytes.length)).sum:=by
 rw [List.map_take];exact Hp _ j
def iM (lp lf lo li lb:Int) (w:World) (FZ:List AQ) (j:Nat) (e:Ending) (w':World):Prop:=
 ∃c:Int,e= .returned (iV c)/\Bw w w'/\(c≠0->((CP lp lf lo li lb).puts FZ).1=c)/\(c=0->Qa lp lf lo li lb w FZ (j+1) w')
def de (lp lf lo li lb:Int) (FZ:List AQ) (w:World) (j:Nat) (f:AQ) (hf:FZ[j]? =some f) (hn:FZ.length<=100) (T:(FZ.map (λf=>f.bytes.length)).sum<=200000) (a0:∀f∈FZ,f.path.size<=maxLen/\AK f.bytes)
  (a:Option Addr) (q o c:Nat) (L:0<f.bytes.length->a=some (xK q o)/\q<w.heap.size) (U:Am w q o f.bytes) (wr:World) (h:Qa lp lf lo li lb w FZ j wr):
  cT 41 #[qP (w.heap.size+1) 0,.string f.path,.bool f.dir,.slice a f.bytes.length c] wr λe w'=>iM lp lf lo li lb w FZ j e w':=by
 obtain ⟨k,cs,g,cap,h⟩:=h;have a7:=(zy.1 hf).1;have hg:=h.rep.2.lt g rfl;have hk:=h.rep.1.lt;have b2:=h.inos;have a3:=h.last;have hp:=a0 f (zv hf);have hu:=h.used;have a6:=Gq FZ j;have Z:=Gq FZ (j+1);have b0:=IN hf;have a9:=h.below.size
 cases hd:f.dir with
 |true=>
  refine (VU (w.heap.size+2) (w.heap.size+1) g cap k f.path _ wr h.rep om om om (o1 h.inv.2.2) om hp.1).mono ?_;rintro e w7 ⟨rfl,g7,J,a2,N,a4⟩;have G:Bw w w7:=h.below.trans (N.below om om om);have C:=iL (k:=k) (cs:=cs) hd;refine ⟨(Cr k f.path).1,rfl,G,λhc=> ?_,λhc=> ?_⟩
  ·rw [NX h.puts hf (by rw [C.1];exact hc),C.1]
  ·have M:=dZ hc;refine ⟨(Cr k f.path).2,cs++[[]],g7,J,a2,?_,h.inv.mkdir f.path,h.nils.mkdir f.path,?_,h.bytes.snoc,?_,?_,?_,G⟩
   ·rw [M];exact (h.cont.frame N h.rep.apart.1 h.rep.apart.2).add _ _ _
   ·rw [NW h.puts hf (C.1.trans hc),C.2 hc]
   ·rw [F9];omega
   ·rw [M];simp [RK.add];omega
   ·rw [M];show k.last+1<=_;omega
 |false=>
  have Y:(cs.map List.length).sum<=1000000:=by have:AM cs=(cs.map List.length).sum:=rfl;omega
  refine (Ty (w.heap.size+2) (w.heap.size+1) g cap k cs f.path a q o c f.bytes wr h.rep h.cont h.inv om om om om hp.1 h.nils.pv h.nils.ov om Y (λh0=>(L h0).1) (λh0=>o1 (L h0).2) ?_).mono ?_
  ·by_cases h0:0<f.bytes.length
   ·exact U.below h.below (L h0).2
   ·exact λj hj=>absurd hj om
  rintro e w7 ⟨rfl,G,a1⟩;have D:Bw w w7:=h.below.trans (G.mono om);have C:=dY (k:=k) (cs:=cs) hd;refine ⟨fileCode k cs f.path f.bytes,rfl,D,λhc=> ?_,λhc=> ?_⟩
  ·rw [NX h.puts hf (by rw [C.1];exact hc),C.1]
  ·obtain ⟨k',g',cap',O,V,E,I,a8,a5⟩:=a1 hc;have X:k'.inos.length=(Ag k cs f.path).1.inos.length:=by have:=congrArg List.length E;simpa using this
   have H:k'.last=(Ag k cs f.path).1.last:=by have h9:=congrArg (λx:RK=>x.last) I;exact h9
   refine ⟨k',F6 k cs f.path f.bytes,g',cap',O,V,?_,h.nils.file I,?_,h.bytes.file k f.path hp.2,?_,?_,?_,D⟩
   ·obtain ⟨⟨k1,b1,n1⟩,ho⟩:∃x,Ag k cs f.path=x:=⟨_,rfl⟩;rw [ho] at E H;exact (h.inv.opened ho).same E H
   ·rw [NW h.puts hf (C.1.trans hc),C.2 k' E I]
   ·have:=Vu k cs f.path f.bytes;omega
   ·rw [X];unfold Ag;split
    ·simp [RK.add];omega
    ·simp;omega
   ·rw [H];unfold Ag;split
    ·show k.last+1<=_;omega
    ·show k.last<=_;omega
structure ROb where
 id:Int
 kind:Int
 of:Int
 offset:Int
def Gu (x:ROb):List Value:=[iV x.id,iV x.kind,iV x.of,iV x.offset]
def TF (xs:List ROb):List Value:=xs.flatMap Gu
def TG:∀(xs:List ROb) (j i:Nat) (x:ROb) (v:Value),xs[j]? =some x->i<4->(Gu x)[i]? =some v->(TF xs)[j*4+i]? =some v
 |[],j,i,x,v,h,_,_=>by simp at h
 |a::r,0,i,x,v,h,hi,hv=>by
  have e:a=x:=sU h;subst e;show (Gu a++TF r)[0*4+i]? =_;rw [zo (by simp [Gu];omega)]
  simpa using hv
 |a::r,j+1,i,x,v,h,hi,hv=>by
  show (Gu a++TF r)[(j+1)*4+i]? =_;rw [zn (by simp [Gu];omega)];have:(j+1)*4+i-(Gu a).length=j*4+i:=by simp [Gu];omega
  rw [this];exact TG r j i x v (sU h) hi hv
def J0 (OB:List ROb) (id:Int) (n:Nat):Int×Int:=(OB.take n).foldl (λa x=>if x.id=id then (x.kind,x.offset) else a) (4,0)
def OW {OB:List ROb} {id:Int} {x:ROb} (h:OB[n]? =some x):J0 OB id (n+1)=if x.id=id then (x.kind,x.offset) else J0 OB id n:=by
 unfold J0;rw [uw,h];simp
def IQ (OB:List ROb) (id:Int):Int×Int:=J0 OB id OB.length
structure AFd where
 num:Int
 kind:Int
 offset:Int
def Dx (OB:List ROb) (F:List Int):Nat->List AFd
 |0=>[]
 |n+1=>if F.getD n 0=0 then Dx OB F n else Dx OB F n++[⟨n,(IQ OB (F.getD n 0)).1,(IQ OB (F.getD n 0)).2⟩]
def Eh (OB:List ROb) (F:List Int):List AFd:=Dx OB F 8
def NY (OB:List ROb) (F:List Int):∀n,(Dx OB F n).length<=n
 |0=>by simp [Dx]
 |n+1=>by
  have:=NY OB F n;unfold Dx;split
  ·omega
  ·simp;omega
def TH (OB:List ROb) (F:List Int):∀(m n:Nat),Dx OB F n<+:Dx OB F (n+m)
 |0,n=>List.prefix_rfl
 |m+1,n=>by
  refine (TH OB F m n).trans ?_;show Dx OB F (n+m)<+:Dx OB F (n+m+1)
  conv=>rhs;unfold Dx
  split
  ·exact List.prefix_rfl
  ·exact List.prefix_append _ _
def iW {OB:List ROb} (hj:j<8) (h:F.getD j 0≠0):(Eh OB F)[(Dx OB F j).length]? =some ⟨j,(IQ OB (F.getD j 0)).1,(IQ OB (F.getD j 0)).2⟩:=by
 have hp:Dx OB F (j+1)<+:Eh OB F:=by
  have:=TH OB F (8-(j+1)) (j+1);rwa [show j+1+(8-(j+1))=8 by omega] at this
 have e:Dx OB F (j+1)=Dx OB F j++[⟨j,(IQ OB (F.getD j 0)).1,(IQ OB (F.getD j 0)).2⟩]:=by
  conv=>lhs;unfold Dx
  rw [vz h]
 rw [e] at hp;obtain ⟨t,ht⟩:=hp;rw [<-ht,xu,zn (zx _)];simp
def Y5 {OB:List ROb} (h:F.getD j 0=0):Dx OB F (j+1)=Dx OB F j:=by
 conv=>lhs;unfold Dx
 rw [vu h]
def nE (w:World) (g o:Nat) (FL:List AFd):Prop:=∀(i:Nat) (x:AFd),FL[i]? =some x->w.cell? (xK g (o+i*3))=some (iV x.num)/\w.cell? (xK g (o+i*3+1))=some (iV x.kind)/\w.cell? (xK g (o+i*3+2))=some (iV x.offset)
def nF (w:World) (g:Nat) (OB:List ROb):Prop:=w.rangeAt g 0 (TF OB)
def Dg (pid par st su le pc:Int) (R:List Int) (pv fv:Value):List Value:=[iV pid,iV par,iV st,iV su,iV le,uV pc,uV (R[0]?.getD 0),uV (R[1]?.getD 0),uV (R[2]?.getD 0),uV (R[3]?.getD 0),uV (R[4]?.getD 0),uV (R[5]?.getD 0),uV (R[6]?.getD 0),uV (R[7]?.getD 0),uV (R[8]?.getD 0),uV (R[9]?.getD 0),uV (R[10]?.getD 0),uV (R[11]?.getD 0),uV (R[12]?.getD 0),uV (R[13]?.getD 0),uV (R[14]?.getD 0),uV (R[15]?.getD 0),pv,fv]
def Gl {P:Program} {ops:Array Oper} {rest:List Oper} {op:Oper} {a:Act} {Q:Exit->Act->World->Prop} (hw:Region.wanted op (yielded ops a.tmps)=true) (ty:TypeId) (x:Operand) (ho:op.op= .load ty x)
  (b o:Nat) (hx:a.eval x= qP b o) (cs:List Value) (d:TypeDesc) (hc:w.rangeAt b o cs) (hu:P.underlying ty=some d) (hd:d.isRow=true) (hi:(P.info? ty).map (·.size)=some cs.length)
  (h:wpList P ops Q rest (a.put op.dst (.agg cs.toArray)) w):wpList P ops Q (op::rest) a w:=by
 unfold wpList;rw [vu hw];exact .inl (wp_load_mid ty x ho b o hx cs d hc hu hd hi h)
def Dh (R:List Int):List Value:=R.map (Value.int .u64)
def iX (h:R.length=16):R=[R[0]?.getD 0,R[1]?.getD 0,R[2]?.getD 0,R[3]?.getD 0,R[4]?.getD 0,R[5]?.getD 0,R[6]?.getD 0,R[7]?.getD 0,R[8]?.getD 0,R[9]?.getD 0,R[10]?.getD 0,R[11]?.getD 0,R[12]?.getD 0,R[13]?.getD 0,R[14]?.getD 0,R[15]?.getD 0]:=by
 match R,h with
 |[a0,a1,a2,a3,a4,a5,a6,a7,a8,a9,a10,a11,a12,a13,a14,a15],_=>rfl
def WA (h:R.length=16) (hv:(Dh R)[j]? =some v):[uV (R[0]?.getD 0),uV (R[1]?.getD 0),uV (R[2]?.getD 0),uV (R[3]?.getD 0),uV (R[4]?.getD 0),uV (R[5]?.getD 0),uV (R[6]?.getD 0),uV (R[7]?.getD 0),uV (R[8]?.getD 0),uV (R[9]?.getD 0),uV (R[10]?.getD 0),uV (R[11]?.getD 0),uV (R[12]?.getD 0),uV (R[13]?.getD 0),uV (R[14]?.getD 0),uV (R[15]?.getD 0)][j]? =some v:=by
 rw [iX h] at hv;exact hv
def UR {pv fv:Value} (h:R.length=16) (hv:(Dh R)[j]? =some v):(Dg pid par st su le pc R pv fv)[6+j]? =some v:=by
 have h1:=WA h hv;have hl:j<16:=by have:=(zy.1 h1).1;simpa using this
 show ([iV pid,iV par,iV st,iV su,iV le,uV pc]++([uV (R[0]?.getD 0),uV (R[1]?.getD 0),uV (R[2]?.getD 0),uV (R[3]?.getD 0),uV (R[4]?.getD 0),uV (R[5]?.getD 0),uV (R[6]?.getD 0),uV (R[7]?.getD 0),uV (R[8]?.getD 0),uV (R[9]?.getD 0),uV (R[10]?.getD 0),uV (R[11]?.getD 0),uV (R[12]?.getD 0),uV (R[13]?.getD 0),uV (R[14]?.getD 0),uV (R[15]?.getD 0)]++[pv,fv]))[6+j]? =_;rw [zn sI,zo sO];simpa using h1
def UT {pv:Value} (h:R.length=16) (hv:(Dh R)[j]? =some v):(Au pid par st su le pc R pv F)[6+j]? =some v:=by
 have h1:=WA h hv;have hl:j<16:=by have:=(zy.1 h1).1;simpa using this
 show ([iV pid,iV par,iV st,iV su,iV le,uV pc]++([uV (R[0]?.getD 0),uV (R[1]?.getD 0),uV (R[2]?.getD 0),uV (R[3]?.getD 0),uV (R[4]?.getD 0),uV (R[5]?.getD 0),uV (R[6]?.getD 0),uV (R[7]?.getD 0),uV (R[8]?.getD 0),uV (R[9]?.getD 0),uV (R[10]?.getD 0),uV (R[11]?.getD 0),uV (R[12]?.getD 0),uV (R[13]?.getD 0),uV (R[14]?.getD 0),uV (R[15]?.getD 0)]++[pv,iV (F[0]?.getD 0),iV (F[1]?.getD 0),iV (F[2]?.getD 0),iV (F[3]?.getD 0),iV (F[4]?.getD 0),iV (F[5]?.getD 0),iV (F[6]?.getD 0),iV (F[7]?.getD 0)]))[6+j]? =_;rw [zn sI,zo sO];simpa using h1
def Y6 {pv:Value} (hj:j<8):(Au pid par st su le pc R pv F)[23+j]? =some (iV (F.getD j 0)):=by
 match j,hj with
 |0,_=>rfl
 |1,_=>rfl
 |2,_=>rfl
 |3,_=>rfl
 |4,_=>rfl
 |5,_=>rfl
 |6,_=>rfl
 |7,_=>rfl
def TI:(prog.info? 74).map (·.size)=some 16:=kf
def pW (R:List Int) (h:R.length=16) (w:World):(Op.equalIn 10000 74 (.agg (Dh R).toArray) (.agg (Dh R).toArray)).run prog w= .ok true w:=by
 have:=Ie (P:=prog) w 9998 74 73 16 .u64 underlying74 underlying73 (λw=>kf) R R h h;simpa [Dh] using this
def UU (wb kb:Nat) (kv:Value) (oa:Option Addr) (og oc:Nat) (OB:List ROb) (pid par st su le pc:Int) (R F:List Int) (aa ab:Option Addr) (ga gb ca cb:Nat) (PS:List Pg) (fa:Option Addr) (fg fo fc:Nat) (w:World)
  (hw:cE w wb 1 (qP kb 0)) (hk:cE w kb 6 (.slice oa OB.length oc)) (T:0<OB.length->oa=some (xK og 0)) (c1:nF w og OB) (g7:OB.length<=100000)
  (hR:R.length=16) (ha:0<PS.length->aa=some (xK ga 0)) (hb:0<PS.length->ab=some (xK gb 0)) (hA:If w ga PS) (hB:Bs w gb PS) (hp:∀p∈PS,0<=p.perm/\p.perm<=255/\p.bytes.length=256) (hn:PS.length<=100000)
  (L:0<(Eh OB F).length->fa=some (xK fg fo)) (b9:nE w fg fo (Eh OB F)) (D:wb<w.heap.size/\kb<w.heap.size/\(0<OB.length->og<w.heap.size)/\(0<PS.length->ga<w.heap.size/\gb<w.heap.size)/\(0<(Eh OB F).length->fg<w.heap.size)):
  cT 58 #[qP wb 0,.agg #[iV pid,iV par,iV st,iV su,iV le,uV pc,uV (R[0]?.getD 0),uV (R[1]?.getD 0),uV (R[2]?.getD 0),uV (R[3]?.getD 0),uV (R[4]?.getD 0),uV (R[5]?.getD 0),uV (R[6]?.getD 0),uV (R[7]?.getD 0),uV (R[8]?.getD 0),uV (R[9]?.getD 0),uV (R[10]?.getD 0),uV (R[11]?.getD 0),uV (R[12]?.getD 0),uV (R[13]?.getD 0),uV (R[14]?.getD 0),uV (R[15]?.getD 0),.slice aa PS.length ca,.slice fa (Eh OB F).length fc],.agg #[iV pid,iV par,iV st,iV su,iV le,uV pc,uV (R[0]?.getD 0),uV (R[1]?.getD 0),uV (R[2]?.getD 0),uV (R[3]?.getD 0),uV (R[4]?.getD 0),uV (R[5]?.getD 0),uV (R[6]?.getD 0),uV (R[7]?.getD 0),uV (R[8]?.getD 0),uV (R[9]?.getD 0),uV (R[10]?.getD 0),uV (R[11]?.getD 0),uV (R[12]?.getD 0),uV (R[13]?.getD 0),uV (R[14]?.getD 0),uV (R[15]?.getD 0),.slice ab PS.length cb,iV (F[0]?.getD 0),iV (F[1]?.getD 0),iV (F[2]?.getD 0),iV (F[3]?.getD 0),iV (F[4]?.getD 0),iV (F[5]?.getD 0),iV (F[6]?.getD 0),iV (F[7]?.getD 0)]] w λe w'=>e= .returned (.bool true)/\Bw w w':=by
 have d9:=AC (λ(w':World) (hb':Bw w w')=>SD aa ab ga gb ca cb PS w' ha hb (λi p h=>by
   have hl:=D.2.2.2.1 (o1 (zy.1 h).1);obtain ⟨h1,h2,h3⟩:=hA i p h;exact ⟨by rw [hb'.cell (p:=(xK ga (i*258))) hl.1];exact h1,by rw [hb'.cell (p:=(xK ga (i*258+1))) hl.1];exact h2,λj v hv=>by rw [hb'.cell (p:=(xK ga (i*258+2+j))) hl.1];exact h3 j v hv⟩) (λi p h=>by
   have hl:=D.2.2.2.1 (o1 (zy.1 h).1);obtain ⟨h1,h2,h3⟩:=hB i p h
   exact ⟨by rw [hb'.cell (p:=(xK gb (i*258))) hl.2];exact h1,by rw [hb'.cell (p:=(xK gb (i*258+1))) hl.2];exact h2,λj v hv=>by rw [hb'.cell (p:=(xK gb (i*258+2+j))) hl.2];exact h3 j v hv⟩) hp hn)
 obtain ⟨c8,d3,c6,d8,a6⟩:=H5 b9 L c1 T D;have d2:=D.1;have d1:=D.2.1;have HR:=AC hR;obtain ⟨W0,J⟩:=xE ((w.alloc (Obj.cells (Dg pid par st su le pc R (.slice aa PS.length ca) (.slice fa (Eh OB F).length fc)).toArray 161)).alloc (Obj.cells (Au pid par st su le pc R (.slice ab PS.length cb) F).toArray 78));have c4:Bw w W0:=by rw [J];exact bA.alloc sI _
 have d6:AE W0 w.heap.size 161 (Dg pid par st su le pc R (.slice aa PS.length ca) (.slice fa (Eh OB F).length fc)):=by rw [J];exact (AE.new w 161 _).alloc _
 have c3:AE W0 (w.heap.size+1) 78 (Au pid par st su le pc R (.slice ab PS.length cb) F):=by
  rw [J];have:=AE.new (w.alloc (Obj.cells (Dg pid par st su le pc R (.slice aa PS.length ca) (.slice fa (Eh OB F).length fc)).toArray 161)) 78 (Au pid par st su le pc R (.slice ab PS.length cb) F);rwa [show (w.alloc (Obj.cells (Dg pid par st su le pc R (.slice aa PS.length ca) (.slice fa (Eh OB F).length fc)).toArray 161)).heap.size=w.heap.size+1 from sI] at this
 obtain ⟨N,E,G⟩:=H3 c4 d6 c3;unfold Dg Au at J;have d4:=AC J;clear ha hb hA hB hp b9 L c1 T D hR c4 d6 c3 J;go_enter func58,ntmps58
 go_upto_region 1 with fail
 rw [<-AB d4];have a0:=E.cell (j:=0) rfl;have a1:=E.cell (j:=1) rfl;have a2:=E.cell (j:=2) rfl;have a3:=E.cell (j:=3) rfl;have a4:=E.cell (j:=4) rfl;have g4:=E.cell (j:=22) rfl;have b0:=G.cell (j:=0) rfl;have b1:=G.cell (j:=1) rfl;have b2:=G.cell (j:=2) rfl;have b3:=G.cell (j:=3) rfl;have b4:=G.cell (j:=4) rfl;have f2:=G.cell (j:=22) rfl
 go_wp2_with fail
 refine (AB d9 W0 N).mono ?_;rintro e w1 ⟨rfl,U,f1⟩;clear a0 a1 a2 a3 a4 g4 b0 b1 b2 b3 b4 f2 d9;have a9:=AC (E.heap U);have Y:=AC (G.heap U);have d0:=AC (N.trans (f1.mono (o1 N.size)));have a5:=a9.cell (j:=5) rfl;have b5:=Y.cell (j:=5) rfl;obtain ⟨cs,M⟩:=xE (Dh R);obtain ⟨ds,O⟩:=xE (Dh R);have c5:Hid (w1.rangeAt w.heap.size 6 cs):=λj v hv=>a9.cell (UR (AB HR) (by rw [<-M];exact hv));have c0:Hid (w1.rangeAt (w.heap.size+1) 6 ds):=λj v hv=>Y.cell (UT (AB HR) (by rw [<-O];exact hv));have hq:∀w,(Op.equalIn 10000 74 (.agg cs.toArray) (.agg ds.toArray)).run prog w= .ok true w:=by rw [M,O];exact pW R (AB HR)
 have b7:=AC (show (prog.info? 74).map (·.size)=some cs.length from by rw [TI,M];simp [Dh,AB HR]);have c7:=AC (show (prog.info? 74).map (·.size)=some ds.length from by rw [TI,O];simp [Dh,AB HR]);clear U f1 M O
 go_upto_region 8 with (first|(refine Gl (by rfl) 74 _ rfl w.heap.size 6 (by rfl) cs _ c5 underlying74 rfl b7 ?_)|(refine Gl (by rfl) 74 _ rfl (w.heap.size+1) 6 (by rfl) ds _ c0 underlying74 rfl c7 ?_))
 have C:∀b o,b<w.heap.size->w1.cell? (xK b o)=w.cell? (xK b o):=λb o hb=>d0.cell (p:=(xK b o)) hb;have f7:w1.cell? (xK w.heap.size 23)=some (.slice fa (Eh OB F).length fc):=a9.cell (j:=23) rfl;have e1:w1.cell? (xK wb 1)=some (qP kb 0):=by rw [C _ _ d2];exact hw
 have e6:w1.cell? (xK kb 6)=some (.slice oa OB.length oc):=by rw [C _ _ d1];exact hk
 have f8:Hid (∀j,j<8->w1.cell? (xK (w.heap.size+1) (23+j))=some (iV (F.getD j 0))):=λj hj=>Y.cell (Y6 hj)
 have f6:=AC (show ∀(i:Nat) (x:AFd),(Eh OB F)[i]? =some x->fa=some (xK fg fo)/\w1.cell? (xK fg (fo+i*3))=some (iV x.num)/\w1.cell? (xK fg (fo+i*3+1))=some (iV x.kind)/\w1.cell? (xK fg (fo+i*3+2))=some (iV x.offset) from λi x hx=>by
  have hl:0<(Eh OB F).length:=o1 (zy.1 hx).1;have hg:=a6.2.2.2.2 hl;obtain ⟨h1,h2,h3⟩:=AB c8 i x hx
  exact ⟨AB d3 hl,by rw [C _ _ hg];exact h1,by rw [C _ _ hg];exact h2,by rw [C _ _ hg];exact h3⟩)
 have f5:=AC (show ∀(i:Nat) (x:ROb),OB[i]? =some x->oa=some (xK og 0)/\w1.cell? (xK og (i*4))=some (iV x.id)/\w1.cell? (xK og (i*4+1))=some (iV x.kind)/\w1.cell? (xK og (i*4+3))=some (iV x.offset) from λi x hx=>by
  have hl:0<OB.length:=o1 (zy.1 hx).1;have hg:=a6.2.2.1 hl
  have hr:∀(c:Nat) (v:Value),c<4->(Gu x)[c]? =some v->w1.cell? (xK og (i*4+c))=some v:=λc v hc hv=>by
   rw [C _ _ hg];have:=(AB c6) (i*4+c) v (TG OB i c x v hx hc hv);rwa [zq] at this
  exact ⟨AB d8 hl,hr 0 _ om rfl,hr 1 _ om rfl,hr 3 _ om rfl⟩)
 have h8:=NY OB F 8;have g6:Hid ((Dx OB F 8).length=(Eh OB F).length):=rfl;have g5:(Eh OB F).length<=8:=h8;clear hw hk d2 d1 C a5 b5 hq c5 c0 b7 c7 c8 d3 c6 d8 a6 E G N d4 h8
 go_loop [8,9] (λf3 f=>∃j:Nat,j<=8/\f= iV j/\f3= iV (Dx OB F j).length) (λ_ f=>8-(intOf f).toNat)
 case atStart=>exact ⟨0,om,rfl,rfl⟩
 case round=>
  obtain ⟨j,hj,rfl,rfl⟩:=hrel;have hA:=NY OB F j;by_cases D:j<8
  ·have f0:=AB f8 j D;have g9:(0:Int)<=(j:Int):=om;have h0:(j:Int)<8:=om;by_cases hz:F.getD j 0=0
   ·have HE:=AC (Y5 (OB:=OB) hz);rw [hz] at f0;clear hz;go_wp2
    go_round
    case rel=>exact ⟨j+1,om,by go_num,by rw [AB HE]⟩
    case measure=>simp [intOf];omega
   ·have hx:=iW (OB:=OB) D hz;obtain ⟨L,g0,g1,g2⟩:=AB f6 _ _ hx;have a7:=(zy.1 hx).1
    have HE:=AC (show (Dx OB F (j+1)).length=(Dx OB F j).length+1 from by
     have e:Dx OB F (j+1)=Dx OB F j++[⟨j,(IQ OB (F.getD j 0)).1,(IQ OB (F.getD j 0)).2⟩]:=by
      conv=>lhs;unfold Dx
      rw [vz hz]
     rw [e];simp)
    subst L;obtain ⟨X,hX⟩:=xE (F.getD j 0);rw [<-hX] at f0 hz g1 g2;have h7:(X==0)=false:=sU hz;obtain ⟨A,d5⟩:=xE ((Dx OB F j).length);obtain ⟨NN,b8⟩:=xE ((Eh OB F).length);rw [<-d5] at g0 g1 g2 a7 HE hA ⊢;rw [<-b8] at f7 a7 g5;have h4:(0:Int)<=(A:Int):=om;have h6:(A:Int)<(NN:Int):=om;have g8:¬(NN:Int)<=(A:Int):=om;obtain ⟨KK,a8⟩:=xE ((IQ OB X).1);obtain ⟨OO,V⟩:=xE ((IQ OB X).2);rw [<-a8] at g1;rw [<-V] at g2;have b6:=AC a8;have d7:=AC V;simp only at g0;clear hz hx hX d5 b8 a7 a8 V;go_wp2
    go_loop [11,12,13] (λkd of i=>∃m:Nat,m<=OB.length/\i= iV m/\kd= iV (J0 OB X m).1/\of= iV (J0 OB X m).2) (λ_ _ i=>OB.length-(intOf i).toNat)
    case atStart=>exact ⟨0,om,rfl,rfl,rfl⟩
    case round=>
     obtain ⟨m,hm,rfl,rfl,rfl⟩:=hrel;by_cases f9:m<OB.length
     ·obtain ⟨x,hx⟩:∃x,OB[m]? =some x:=⟨_,zz f9⟩;obtain ⟨T,o0,o1,o3⟩:=AB f5 m x hx;subst T;have h5:(0:Int)<=(m:Int):=om;have h9:(m:Int)<(OB.length:Int):=om;by_cases H:x.id=X
      ·have Z:(x.id==X)=true:=sU H;have I:=AC ((OW (id:=X) hx).trans (vu H));generalize x.id=XI at o0 Z H;generalize hxk:x.kind=XK at o1 I;generalize hxo:x.offset=XO at o3 I;clear hx H hxk hxo;go_wp2
       go_round
       case rel=>exact ⟨m+1,om,by go_num,by rw [AB I],by rw [AB I]⟩
       case measure=>simp [intOf];omega
      ·have Z:(x.id==X)=false:=sU H;have I:=AC ((OW (id:=X) hx).trans (vz H));generalize x.id=XI at o0 Z H;clear hx H o1 o3;go_wp2
       go_round
       case rel=>exact ⟨m+1,om,by go_num,by rw [AB I],by rw [AB I]⟩
       case measure=>simp [intOf];omega
     ·have f4:m=OB.length:=om;subst f4;have c9:Hid ((J0 OB X OB.length).1=KK):=b6.symm;have c2:Hid ((J0 OB X OB.length).2=OO):=d7.symm;rw [AB c9,AB c2];clear b6 d7 c9 c2;go_wp2
      go_round
      case rel=>exact ⟨j+1,om,by go_num,by rw [AB HE];go_num⟩
      case measure=>simp [intOf];omega
  ·have g3:j=8:=om;subst g3;rw [AB g6];go_wp2;go_ret;exact ⟨rfl,AB d0⟩
structure PO where
 aa:Option Addr
 ga:Nat
 ca:Nat
 fa:Option Addr
 fg:Nat
 fo:Nat
 fc:Nat
def JH (w:World) (g n:Nat):Prop:=∀j,j<n->(w.cell? (xK g (j*258))).isSome=true/\w.frozen? (xK g (j*258))=false/\(∃x:Int,w.cell? (xK g (j*258+2))=some (.int .u8 x))/\w.frozen? (xK g (j*258+2))=false
def JH.set (h:JH w g n) (o:Nat) (v:Value) (hv:∀j,j<n->o=j*258+2->∃y:Int,v= .int .u8 y):JH (w.setCell (xK g o) v) g n:=λj hj=>by
 obtain ⟨a,b,⟨x,c⟩,d⟩:=h j hj;refine ⟨?_,by simpa using b,?_,by simpa using d⟩
 ·by_cases e:o=j*258
  ·subst e;rw [World.cell?_setCell_same' _ _ _ a];rfl
  ·rw [yy _ _ _ _ (by simp<;>omega)];exact a
 ·by_cases e:o=j*258+2
  ·obtain ⟨y,rfl⟩:=hv j hj e;subst e;exact ⟨y,yx _ _ _ c⟩
  ·exact ⟨x,by rw [yy _ _ _ _ (by simp<;>omega)];exact c⟩
def TJ (OB:List ROb) (p:AP) (l:PO):List Value:=Dg p.pid p.par p.st p.su p.le p.pc p.R (.slice l.aa p.PS.length l.ca) (.slice l.fa (Eh OB p.F).length l.fc)
structure Lg (w:World) (B ag i:Nat) (OB:List ROb) (p:AP) (l:PO):Prop where
 row:w.rangeAt ag (i*24) (TJ OB p l)
 aa:0<p.PS.length->l.aa=some (xK l.ga 0)/\B<=l.ga/\l.ga<w.heap.size/\l.ga≠ag
 pages:If w l.ga p.PS
 pgc:JH w l.ga p.PS.length
 fa:0<(Eh OB p.F).length->l.fa=some (xK l.fg l.fo)/\l.fg<w.heap.size
 fds:nE w l.fg l.fo (Eh OB p.F)
structure Fa (w:World) (B ag n:Nat) (OB:List ROb) (AL:List AP) (LS:List PO):Prop where
 len:LS.length=AL.length
 at_:∀(i:Nat) (p:AP) (l:PO),n<=i->AL[i]? =some p->LS[i]? =some l->Lg w B ag i OB p l
 apart:∀(i j:Nat) (p:AP) (l m:PO),AL[i]? =some p->LS[i]? =some l->LS[j]? =some m->i≠j->0<p.PS.length->l.ga≠m.ga/\l.ga≠m.fg
structure iY (w:World) (B gp:Nat) (AL:List AP):Prop where
 lt:0<AL.length->gp<B
 at_:∀(i:Nat) (p:AP),AL[i]? =some p->∃ab gb cb,w.rangeAt gp (i*31) (Au p.pid p.par p.st p.su p.le p.pc p.R (.slice ab p.PS.length cb) p.F)/\(0<p.PS.length->ab=some (xK gb 0)/\gb<B)/\Bs w gb p.PS
def Lg.other {B:Nat} {OB:List ROb} {l:PO} (h:Lg w B ag i OB p l) (hg:w.grownBy w' (some g)) (h1:g≠ag) (h2:0<p.PS.length->g≠l.ga) (h3:0<(Eh OB p.F).length->g≠l.fg):Lg w' B ag i OB p l:=by
 have hs:=hg.size;refine ⟨Dm h.row hg sO,λh0=> ?_,λj q hq=> ?_,λj hj=> ?_,λh0=> ?_,λj x hx=> ?_⟩
 ·obtain ⟨a,b,c,d⟩:=h.aa h0;exact ⟨a,b,om,d⟩
 ·have h0:0<p.PS.length:=o1 (zy.1 hq).1;have C:some l.ga≠some g:=by simp;exact λe=>h2 h0 e.symm
  obtain ⟨a,b,c⟩:=h.pages j q hq;exact ⟨hg.cell a C,hg.cell b C,Dm c hg C⟩
 ·have C:some l.ga≠some g:=by simp;exact λe=>h2 om e.symm
  have hl:=(h.aa om).2.2.1;obtain ⟨a,b,⟨x,c⟩,d⟩:=h.pgc j hj;refine ⟨?_,?_,⟨x,hg.cell c C⟩,?_⟩
  ·obtain ⟨u,hu⟩:=Option.isSome_iff_exists.1 a;rw [hg.cell hu C];rfl
  ·rw [hg.frozen_far _ hl C];exact b
  ·rw [hg.frozen_far _ hl C];exact d
 ·obtain ⟨a,b⟩:=h.fa h0;exact ⟨a,om⟩
 ·have h0:0<(Eh OB p.F).length:=o1 (zy.1 hx).1;have C:some l.fg≠some g:=by simp;exact λe=>h3 h0 e.symm
  obtain ⟨a,b,c⟩:=h.fds j x hx;exact ⟨hg.cell a C,hg.cell b C,hg.cell c C⟩
def Fa.rest {B:Nat} {OB:List ROb} {LS:List PO} (h:Fa w B ag n OB AL LS) {l:PO} (hp:AL[n]? =some p) (hl:LS[n]? =some l) (h0:0<p.PS.length) (hg:w.grownBy w' (some l.ga)):Fa w' B ag (n+1) OB AL LS:=by
 have hn:=h.at_ n p l (zx _) hp hl;refine ⟨h.len,λi q m hi hq hm=> ?_,h.apart⟩;have ha:=h.apart n i p l m hp hl hm om h0;exact (h.at_ i q m om hq hm).other hg (hn.aa h0).2.2.2 (λ_=>ha.1) (λ_=>ha.2)
def Fa.next {B:Nat} {OB:List ROb} {LS:List PO} (h:Fa w B ag n OB AL LS):Fa w B ag (n+1) OB AL LS:=⟨h.len,λi q m hi hq hm=>h.at_ i q m om hq hm,h.apart⟩
def Lg.below {B:Nat} {OB:List ROb} {l:PO} (h:Lg w B ag i OB p l) (hb:Bw w w'):Lg w' B ag i OB p l:=by
 have hg:w.grownBy w' none:=⟨hb.os,hb.tape,hb.output,hb.size,λk hk _=>hb.block k hk⟩;have hs:=hg.size;refine ⟨Dm h.row hg sI,λh0=> ?_,λj q hq=> ?_,λj hj=> ?_,λh0=> ?_,λj x hx=> ?_⟩
 ·obtain ⟨a,b,c,d⟩:=h.aa h0;exact ⟨a,b,om,d⟩
 ·obtain ⟨a,b,c⟩:=h.pages j q hq;exact ⟨hg.cell a sI,hg.cell b sI,Dm c hg sI⟩
 ·have hl:=(h.aa om).2.2.1;obtain ⟨a,b,⟨x,c⟩,d⟩:=h.pgc j hj;refine ⟨?_,?_,⟨x,hg.cell c sI⟩,?_⟩
  ·obtain ⟨u,hu⟩:=Option.isSome_iff_exists.1 a;rw [hg.cell hu sI];rfl
  ·rw [hg.frozen_far _ hl sI];exact b
  ·rw [hg.frozen_far _ hl sI];exact d
 ·obtain ⟨a,b⟩:=h.fa h0;exact ⟨a,om⟩
 ·obtain ⟨a,b,c⟩:=h.fds j x hx;exact ⟨hg.cell a sI,hg.cell b sI,hg.cell c sI⟩
def Fa.below {B:Nat} {OB:List ROb} {LS:List PO} (h:Fa w B ag n OB AL LS) (hb:Bw w w'):Fa w' B ag n OB AL LS:=⟨h.len,λi q m hi hq hm=>(h.at_ i q m hi hq hm).below hb,h.apart⟩
end Go.Proofs.YtpcjkidgohpeoaaGreatDoor
