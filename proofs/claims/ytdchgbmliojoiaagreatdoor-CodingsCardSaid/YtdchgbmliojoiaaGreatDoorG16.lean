import Derived.Test.YtdchgbmliojoiaaGreatDoorG15
import Derived.Test.YtdchgbmliojoiaaGreatDoorG11
import Derived.Test.YtdchgbmliojoiaaGreatDoorG13
set_option maxRecDepth 100000
set_option maxHeartbeats 4000000
set_option linter.unusedVariables false
set_option linter.unusedSimpArgs false
namespace Go.Proofs.YtdchgbmliojoiaaGreatDoor
open Go.RowKit
def Am (B:List Int):List Pg:=Bb B (BZ B) 256
def Bad (B:List Int) (c:Int):Prop:=
 ¬B5 B/\c=2\/B5 B/\¬Ii B/\c=3\/B5 B/\Ii B/\((∃p,p<256/\1<(BZ B).countP (fun s=>cov s p))/\c=4\/
  (∀p,p<256->(BZ B).countP (fun s=>cov s p)<=1)/\¬M9 (AW B 24 8) (Am B)/\c=5)
def KU (B:List Int):Prop:=B5 B/\Ii B/\(∀p,p<256->(BZ B).countP (fun s=>cov s p)<=1)/\M9 (AW B 24 8) (Am B)
theorem Bad.uniq {B:List Int} {c d:Int} (h:Bad B c) (k:Bad B d):c=d:=by
 have no:(∃p,p<256/\1<(BZ B).countP (fun s=>cov s p))->(∀p,p<256->(BZ B).countP (fun s=>cov s p)<=1)->False:=fun ⟨p,h1,h2⟩ h3=>by have:=h3 p h1;omega
 rcases h with ⟨a,rfl⟩|⟨a,b,rfl⟩|⟨a,b,(⟨x,rfl⟩|⟨x,y,rfl⟩)⟩<;>rcases k with ⟨a',rfl⟩|⟨a',b',rfl⟩|⟨a',b',(⟨x',rfl⟩|⟨x',y',rfl⟩)⟩<;>first|rfl|exact absurd a' a|exact absurd a a'|exact absurd b' b|exact absurd b b'|exact (no x x').elim|exact (no x' x).elim
theorem Bad.notGood {B:List Int} {c:Int} (h:Bad B c) (k:KU B):False:=by
 obtain ⟨k1,k2,k3,k4⟩:=k
 rcases h with ⟨a,rfl⟩|⟨a,b,rfl⟩|⟨a,b,(⟨⟨p,h1,h2⟩,rfl⟩|⟨x,y,rfl⟩)⟩
 ·exact a k1
 ·exact b k2
 ·have:=k3 p h1;omega
 ·exact y k4
theorem Bad.code {B:List Int} {c:Int} (h:Bad B c):2<=c/\c<=5:=by
 rcases h with ⟨a,rfl⟩|⟨a,b,rfl⟩|⟨a,b,(⟨x,rfl⟩|⟨x,y,rfl⟩)⟩<;>decide
theorem Xh {B:List Int} (hB:AY B) {w w':World} {e:Ending} (h:SU B w e w'):
  (∃c,Bad B c/\e=GX c)\/(KU B/\∃g gc,e= .returned (.tuple #[.agg #[.int .u64 (AW B 24 8),.slice (some (pK g 0)) (Am B).length gc],.nilIface])/\w'.ownsRow w.heap.size 166 258 (.slice (some (pK g 0)) (Am B).length gc) (Am B).length (BG (Am B))):=by
 obtain ⟨h,_⟩:=h
 rcases h with ⟨a,h⟩|⟨a,b,h⟩|⟨a,b,ss,hp,hs,h⟩
 ·exact .inl ⟨2,.inl ⟨a,rfl⟩,h⟩
 ·exact .inl ⟨3,.inr (.inl ⟨a,b,rfl⟩),h⟩
 have hf:=M5 hB b hp
 have hpm:=Pc b hp
 have hov:=cY (B:=B) (fs:=BZ B) hp hf hs
 rcases h with ⟨ho,h⟩|⟨ho,h⟩
 ·exact .inl ⟨4,.inr (.inr ⟨a,b,.inl ⟨hov.1 ho,rfl⟩⟩),h⟩
 have hno:∀p,p<256->(BZ B).countP (fun s=>cov s p)<=1:=fun p hp2=>by
  apply Classical.byContradiction
  intro hx
  obtain ⟨i,hi,hh⟩:=hov.2 ⟨p,hp2,by omega⟩
  exact ho i hi hh
 have hall:Am B=BQ B ss:=Uk hp hf ho
 have hent:Pa (AW B 24 8) ss↔M9 (AW B 24 8) (Am B):=by rw [hall];exact Ue hf hpm _ (BH hB 24 8 (by omega)).1
 rcases h with ⟨he,h⟩|⟨he,g,gc,h1,h2⟩
 ·exact .inl ⟨5,.inr (.inr ⟨a,b,.inr ⟨hno,fun x=>he (hent.2 x),rfl⟩⟩),h⟩
 ·rw [<-hall] at h1 h2
  exact .inr ⟨⟨a,b,hno,hent.1 he⟩,g,gc,h1,h2⟩
theorem Xi {B:List Int} {w w':World} {e:Ending} (h:GZ B w e w'):
  (∃c,Bad B c/\e=K1 c)\/(KU B/\∃g gc,e= .returned (.tuple #[.slice (some (pK g 0)) (Am B).length gc,.int .u64 (AW B 24 8),.int .i64 0])/\w'.ownsRow w.heap.size 138 258 (.slice (some (pK g 0)) (Am B).length gc) (Am B).length (Cd (Am B))):=by
 obtain ⟨h,_⟩:=h
 rcases h with ⟨a,h⟩|⟨a,b,h⟩|⟨a,b,(⟨x,h⟩|⟨x,(⟨y,h⟩|⟨y,g,gc,h1,h2⟩)⟩)⟩
 ·exact .inl ⟨2,.inl ⟨a,rfl⟩,h⟩
 ·exact .inl ⟨3,.inr (.inl ⟨a,b,rfl⟩),h⟩
 ·exact .inl ⟨4,.inr (.inr ⟨a,b,.inl ⟨x,rfl⟩⟩),h⟩
 ·exact .inl ⟨5,.inr (.inr ⟨a,b,.inr ⟨x,y,rfl⟩⟩),h⟩
 ·exact .inr ⟨⟨a,b,x,y⟩,g,gc,h1,h2⟩
theorem JI {B:List Int} (h:KU B):∀p∈Am B,0<=p.perm/\p.perm<=255/\p.bytes.length=256:=by
 intro p hp
 refine ⟨?_,?_,KT _ _ _ p hp⟩<;>
 ·obtain ⟨n,_,hq⟩:=List.mem_flatMap.1 hp
  obtain ⟨s,hs,rfl⟩:=yw.1 hq
  have:=Pc h.2.1 (List.Perm.refl _) s (List.mem_filter.1 hs).1
  show _<=_
  simp only
  omega
theorem ND:∀(PS:List Pg) (j i:Nat) (q:Pg),(∀p∈PS,p.bytes.length=256)->PS[j]? =some q->i<258->∀v,(Av q.num q.perm q.bytes)[i]? =some v->(BG PS)[j*258+i]? =some v
 |[],j,i,q,_,h,_,v,_=>by simp at h
 |a::r,0,i,q,hb,h,hi,v,hv=>by
  have e:a=q:=by simpa using h
  subst e
  rw [BG,List.flatMap_cons,zp (by rw [CO,hb _ yr];omega),Nat.zero_mul,zq];exact hv
 |a::r,j+1,i,q,hb,h,hi,v,hv=>by
  have ih:=ND r j i q (fun p hp=>hb p (List.mem_cons_of_mem _ hp)) (by simpa using h) hi v hv
  have hl:=hb a yr
  have e:(j+1)*258+i-(256+2)=j*258+i:=by omega
  have e2:BG (a::r)=Av a.num a.perm a.bytes++BG r:=by rw [BG,List.flatMap_cons];rfl
  rw [e2,zo (by rw [CO,hl];omega),CO,hl,e]
  exact ih
theorem Zh {W:World} {base g gc:Nat} {PS:List Pg} (hb:∀p∈PS,p.bytes.length=256) (h:W.ownsRow base 166 258 (.slice (some (pK g 0)) PS.length gc) PS.length (BG PS)):Gy W g PS:=by
 intro i p hp
 have hi:=(zy.1 hp).1
 have hpb:=hb p (zv hp)
 have c:∀j v,j<258->(Av p.num p.perm p.bytes)[j]? =some v->W.cell? (pK g (i*258+j))=some v:=fun j v hj hv=>by
  (rw [h.cellAt (i*258+j) (by omega)];exact ND PS i j p hb hp hj v hv)
 have c0:=c 0 _ (by omega) rfl
 rw [Nat.add_zero] at c0
 have c1:=c 1 _ (by omega) rfl
 refine ⟨c0,c1,fun j v hv=> ?_⟩
 have hj:=(zy.1 hv).1
 rw [AM,hpb] at hj
 have e:i*258+2+j=i*258+(j+2):=by omega
 have h9:=c (j+2) v (by omega) hv
 rw [<-e] at h9
 exact h9
theorem ea {W:World} {base g gc:Nat} {PS:List Pg} (hb:∀p∈PS,p.bytes.length=256) (h:W.ownsRow base 138 258 (.slice (some (pK g 0)) PS.length gc) PS.length (Cd PS)):Dq W g PS:=by
 intro i p hp
 have hi:=(zy.1 hp).1
 have hpb:=hb p (zv hp)
 have c:∀j v,j<258->(Aj p.num p.perm p.bytes)[j]? =some v->W.cell? (pK g (i*258+j))=some v:=fun j v hj hv=>by
  (rw [h.cellAt (i*258+j) (by omega)];exact Hu PS i j p hb hp hj v hv)
 have c0:=c 0 _ (by omega) rfl
 rw [Nat.add_zero] at c0
 have c1:=c 1 _ (by omega) rfl
 refine ⟨c0,c1,fun j v hv=> ?_⟩
 have hj:=(zy.1 hv).1
 rw [AM,hpb] at hj
 have e:i*258+2+j=i*258+(j+2):=by omega
 have h9:=c (j+2) v (by omega) hv
 rw [<-e] at h9
 exact h9
theorem NE (a:Option Addr) (cap:Nat) (w:World):Calls Tryz.prog 135 #[.slice a 0 cap] w fun e w'=>e= .returned (.tuple #[.int .i64 0,.bool false])/\w'=w:=by
 go_enter Tryz.func135,Tryz.ntmps135
 go_wp2
 go_ret2
 exact ⟨rfl,rfl⟩
theorem Oi (a:Option Addr) (cap:Nat) (w:World):Calls Tryz.prog 84 #[.slice a 0 cap] w fun e w'=>GZ [] w e w':=by
 have HH:=AC (NE a cap w)
 go_enter Tryz.func84,Tryz.ntmps84
 go_wp2_with fail
 refine (AB HH).mono ?_
 rintro e w1 ⟨rfl,hw1⟩
 subst hw1
 go_wp2
 exact bodyPost_ret (v:= .tuple #[.slice none 0 0,.int .u64 0,.int .i64 2]) (by simp [results,Tryz.results84,go_sem]) rfl ⟨.inl ⟨fun h=>by have:=h.1;simp at this,rfl⟩,zw _ _⟩
theorem Xm {w:World} {v:Value} {c:List Int} (h:Hn w v c) (hB:AY c) (hl:c.length<=400000):Calls Tryz.prog 84 #[v] w fun e w'=>GZ c w e w':=by
 rcases h with ⟨rfl,rfl⟩|⟨_,q,rfl,hh⟩
 ·exact Oi none 0 w
 ·refine Zg q 0 c.length c w hB (zx _) (by omega) (fun j hj=> ?_) hh.lt
  rw [zq];exact hh.bytes j hj
theorem KV {base size n g cap:Nat} {e:TypeId}:∀(vs:List Value) (o:Nat) (w:World) (xs:List Value),w.ownsRow base e size (.slice (some (pK g 0)) n cap) n xs->o+vs.length<=xs.length->
  (w.setCells g o vs).ownsRow base e size (.slice (some (pK g 0)) n cap) n (splice xs o vs)/\w.grownBy (w.setCells g o vs) (some g)
 |[],o,w,xs,h,_=>by rw [EB];exact ⟨h,zk _ _⟩
 |v::r,o,w,xs,h,hl=>by
  have hl':o+(r.length+1)<=xs.length:=hl
  obtain ⟨h1,h2⟩:=h.stored o v
  obtain ⟨h3,h4⟩:=KV r (o+1) _ _ h1 (by rw [yx];omega)
  have e:splice (xs.set o v) (o+1) r=splice xs o (v::r):=by
   have a:=GE xs o [v] 0 v rfl (by simp;omega)
   simp only [List.take_zero,EB,Nat.add_zero,zq] at a
   rw [a,show (List.take 1 [v])=[v] from rfl]
   exact FT xs o [v] r (by simp;omega)
  rw [e] at h3
  exact ⟨h3,EA h2 h4⟩
def IQ:List Value:=List.replicate 16 (.int .u64 0)
def NJ (PR:List Value) (i:Nat) (pv:Value) (E sp:Int):List Value:=
 (splice ((PR.set (i*31+22) pv).set (i*31+5) (.int .u64 E)) (i*31+6) IQ).set (i*31+21) (.int .u64 sp)
def Zl (PR:List Value) (PL:List Nat):Prop:=PR.length=PL.length*31/\∀(j n:Nat),PL[j]? =some n->∃b d,PR[j*31+22]? =some (.slice b n d)
def fileOf (k:RK) (cs:List (List Int)) (s:ByteArray):List Int:=cs.getD (BK k.inos (AN k.inos s).n).toNat []
def ExecErr (k:RK) (cs:List (List Int)) (PL:List Nat) (i:Nat) (s:ByteArray) (ss:List ByteArray) (c:Int):Prop:=
 (AN k.inos s).e≠0/\c=(AN k.inos s).e\/(AN k.inos s).e=0/\((AN k.inos s).n=0/\c=9\/(AN k.inos s).n≠0/\(CI k.inos (AN k.inos s).n=true/\c=11\/
  CI k.inos (AN k.inos s).n=false/\(Bad (fileOf k cs s) c\/KU (fileOf k cs s)/\(CZ ss=false/\c=6\/
   CZ ss=true/\k.lf<(PL.sum:Int)-(PL.getD i 0:Int)+((Am (fileOf k cs s)).length:Int)+2/\c=7))))
def ExecOk (k:RK) (cs:List (List Int)) (PL:List Nat) (i:Nat) (s:ByteArray) (ss:List ByteArray):Prop:=
 (AN k.inos s).e=0/\(AN k.inos s).n≠0/\CI k.inos (AN k.inos s).n=false/\KU (fileOf k cs s)/\CZ ss=true/\(PL.sum:Int)-(PL.getD i 0:Int)+((Am (fileOf k cs s)).length:Int)+2<=k.lf
def Zm (base gp pn pc:Nat) (k:RK) (cs:List (List Int)) (PL:List Nat) (PR:List Value) (i:Nat) (s:ByteArray) (ss:List ByteArray) (w:World) (e:Ending) (w':World):Prop:=
 (∃c,ExecErr k cs PL i s ss c/\e= .returned (.tuple #[.int .i64 0,.int .i64 c])/\Below w.heap.size w w')\/
 (ExecOk k cs PL i s ss/\e= .returned (.tuple #[.int .i64 0,.int .i64 0])/\w.grownBy w' (some gp)/\∃gn cn,w'.ownsRow w.heap.size 138 258 (.slice (some (pK gn 0)) ((Am (fileOf k cs s)).length+2) cn) ((Am (fileOf k cs s)).length+2) (Cd (Am (fileOf k cs s))++Di (Aa ss) 2)/\
  w'.ownsRow base 80 31 (.slice (some (pK gp 0)) pn pc) pn (NJ PR i (.slice (some (pK gn 0)) ((Am (fileOf k cs s)).length+2) cn) (AW (fileOf k cs s) 24 8) (65024+(EE ss:Int))))
theorem Zn {w:World} {base gp pn pc:Nat} {v:Value} {PR:List Value} {PL:List Nat} (hp:Zl PR PL) (hv:v= .slice (some (pK gp 0)) pn pc) (h:w.ownsRow base 80 31 (.slice (some (pK gp 0)) pn pc) pn PR):Hm w v PL:=by
 have hl:pn=PL.length:=by have h1:=hp.1;have h2:=h.1;omega
 refine ⟨some (pK gp 0),pc,by rw [hv,hl],fun i n hn=> ?_⟩
 obtain ⟨b,d,hb⟩:=hp.2 i n hn
 have hi:=(zy.1 hn).1
 exact ⟨gp,b,d,rfl,(h.lt gp rfl).2,by rw [h.cellAt _ (by omega)];exact hb⟩
theorem El {w:World} {base e size n g cap:Nat} {xs:List Value} (h:w.ownsRow base e size (.slice (some (pK g 0)) n cap) n xs) (j:Nat) (hj:j<n*size):∃v,w.cell? (pK g j)=some v/\w.frozen? (pK g j)=false:=by
 refine ⟨xs[j]'(by rw [h.1];exact hj),?_,h.frozenAt j⟩
 rw [h.cellAt j hj];exact zz _
theorem Xn {w:World} {base e size n g cap:Nat} {xs:List Value} (h:w.ownsRow base e size (.slice (some (pK g 0)) n cap) n xs) (o m:Nat) (hj:o+m<=n*size):w.there g o m:=fun j hm=>by
 obtain ⟨v,h1,h2⟩:=El h (o+j) (by omega)
 exact ⟨by rw [h1];rfl,h2⟩
theorem NL (R:List Int):∀u∈Di R 2,u.oneCell'=true:=by
 intro u hu
 have hu':u∈Aj 254 6 (R.take 256)++Aj 255 6 (R.drop 256):=hu
 rcases List.mem_append.1 hu' with h|h
 ·exact Dd _ _ _ u h
 ·exact Dd _ _ _ u h
theorem Zo:(Tryz.prog.info? 76).map (·.size)=some IQ.toArray.size:=by kernel_rfl
theorem Xo:IQ.toArray.all (·.oneCell')=true:=all_oneCell_toArray (fun v hv=>by obtain rfl:=List.eq_of_mem_replicate hv;rfl)
theorem Up {l:List Nat} {n:Nat} (h:n∈l):n<=l.sum:=by
 induction l with
 |nil=>simp at h
 |cons a r ih=>
  rw [List.sum_cons]
  rcases List.mem_cons.1 h with rfl|h
  ·omega
  ·have:=ih h;omega
theorem Sd (base kb g cap gp pn pc i:Nat) (k:RK) (cs:List (List Int)) (PL:List Nat) (PR:List Value) (on oc:Nat) (oa:Option Addr) (s:ByteArray) (a:Option Addr) (ab aoff acap:Nat) (ss:List ByteArray) (w:World)
  (h:D9 w base kb g cap k) (hc:Ch w k.inos cs) (hi:Ho k) (hcb:∀c∈cs,AY c/\c.length<=400000) (hpv:k.pv= .slice (some (pK gp 0)) pn pc) (hpr:w.ownsRow base 80 31 (.slice (some (pK gp 0)) pn pc) pn PR) (hPL:Zl PR PL) (hin:i<pn)
  (hov:k.ov= .slice oa on oc) (hkb:kb<base) (hbs:base<=w.heap.size) (hn:k.inos.length<=10000) (hs:s.size<=maxLen) (hsum:(cs.map List.length).sum<=1000000) (hpn:pn<=1000) (hps:PL.sum<=1000000)
  (hsn:ss.length<=1000) (ha:0<ss.length->a=some (pK ab aoff)) (hab:ab<w.heap.size) (hac:∀j,j<ss.length->w.cell? (pK ab (aoff+j))=some (.string (ss.getD j ByteArray.empty))) (hss:∀x∈ss,x.size<=maxLen):
  Calls Tryz.prog 42 #[pq kb 0,pq gp (i*31),.string s,.slice a ss.length acap] w fun e w'=>Zm base gp pn pc k cs PL PR i s ss w e w':=by
 have hgb:=h.2.lt g rfl
 have hgp:=hpr.lt gp rfl
 have hkl:=h.1.lt
 have HW:=AC (IZ kb g cap k.inos s w h.at hkl hgb.2 (by omega) hs)
 have H:=AC h
 have HC:=AC hc
 have HI:=AC hi
 have HCB:=AC hcb
 have HPR:=AC hpr
 have HPL:=AC hPL
 have HA:=AC ha
 have HAC:=AC hac
 have HSS:=AC hss
 obtain ⟨r,hr⟩:∃r,r=AN k.inos s:=⟨_,rfl⟩
 rw [<-hr] at HW
 have HR:=AC hr
 clear h hc hi hcb hpr hPL ha hac hss hs hr
 obtain ⟨dir,name,n,e⟩:=r
 unfold MU at HW
 go_enter Tryz.func42,Tryz.ntmps42
 go_wp2_with fail
 refine (AB HW).mono ?_
 rintro e' w1 ⟨rfl,hb1⟩
 have HB1:=AC hb1
 have hs1:=hb1.size
 clear hb1 HW
 simp only
 by_cases t1:e=0
 case neg=>
  have g1:(e !=0)=true:=by simpa using t1
  have HX:=AC (show ExecErr k cs PL i s ss e from .inl (by rw [<-AB HR];exact ⟨t1,rfl⟩))
  clear t1
  go_wp2
  go_ret2
  exact .inl ⟨e,AB HX,rfl,AB HB1⟩
 have g1:(e !=0)=false:=by simpa using t1
 have HE:=AC (show (AN k.inos s).e=0 from by rw [<-AB HR];exact t1)
 clear t1
 by_cases t2:n=0
 ·have g2:(n==0)=true:=by simpa using t2
  have HX:=AC (show ExecErr k cs PL i s ss 9 from .inr ⟨AB HE,.inl ⟨by rw [<-AB HR];exact t2,rfl⟩⟩)
  clear t2
  go_wp2
  go_ret2
  exact .inl ⟨9,AB HX,rfl,AB HB1⟩
 have g2:(n==0)=false:=by simpa using t2
 have HN0:=AC (show (AN k.inos s).n≠0 from by rw [<-AB HR];exact t2)
 have hrn:(AN k.inos s).n=n:=by rw [<-AB HR]
 obtain ⟨x,hx⟩:=QT (ZV (AB HI) s (AB HE) (AB HN0))
 rw [hrn] at hx
 obtain ⟨K,hK,hKx⟩:=Ev hx
 have hKl:=(zy.1 hKx).1
 have hdf:CI k.inos n=x.dir:=by unfold CI;rw [hx]
 obtain ⟨c0,hc0⟩:∃c,cs[K]? =some c:=⟨_,zz (by rw [(AB HC).1];exact hKl)⟩
 have hfo:fileOf k cs s=c0:=by rw [fileOf,hrn,hK,Int.toNat_natCast,List.getD,hc0];rfl
 have HR1:=AC ((AB H).below (AB HB1))
 have c3:w1.cell? (pK g (K*5+3))=some (.bool x.dir):=(AB HR1).at.cell hKx (i:=3) (by omega) rfl
 have c4:w1.cell? (pK g (K*5+4))=some x.bytes:=(AB HR1).at.cell hKx (i:=4) (by omega) rfl
 have c7:w1.cell? (pK kb 7)=some (.slice (some (pK g 0)) k.inos.length cap):=(AB HR1).1.cell rfl
 have HIN:=AC (Fv kb g cap k.inos n w1 (AB HR1).at (by omega))
 rw [hK] at HIN
 have hK0:(0:Int)<=(K:Int):=by omega
 have hK1:(K:Int)<(k.inos.length:Int):=by omega
 have HFO:=AC hfo
 have HRN:=AC hrn
 have hfa:=((AB HC).frame (Al.ofBelow (a:=kb) (b:=g) (AB HB1)) (AB H).apart.1 (AB H).apart.2).2 K x c0 hKx hc0
 have hcb:=AB HCB c0 (zv hc0)
 have HLD:=AC (Xm hfa hcb.1 hcb.2)
 obtain ⟨xa,xd,hxb⟩:=hfa.len
 rw [hxb] at c4 HLD
 clear t2 hx hK hKx hc0 hfo hrn hfa hcb hxb
 by_cases td:x.dir=true
 ·rw [td] at c3
  have HX:=AC (show ExecErr k cs PL i s ss 11 from .inr ⟨AB HE,.inr ⟨AB HN0,.inl ⟨by rw [AB HRN,hdf];exact td,rfl⟩⟩⟩)
  clear hdf td
  go_wp2_with fail
  refine (AB HIN).mono ?_
  rintro e' w3 ⟨rfl,hw3⟩
  subst hw3
  go_wp2
  go_ret2
  exact .inl ⟨11,AB HX,rfl,AB HB1⟩
 have td':x.dir=false:=by simpa using td
 rw [td'] at c3
 have HND:=AC (show CI k.inos (AN k.inos s).n=false from by rw [AB HRN,hdf];exact td')
 clear td td' hdf
 go_wp2_with fail
 refine (AB HIN).mono ?_
 rintro e' w3 ⟨rfl,hw3⟩
 subst hw3
 go_wp2_with fail
 refine (AB HLD).mono ?_
 intro e' w4 hp4
 have hb4:=hp4.2
 have hs4:=hb4.size
 have HB4:=AC ((AB HB1).trans (hb4.mono (by omega)))
 rcases Xi hp4 with ⟨c,hbad,rfl⟩|⟨hgood,gq,cq,rfl,how4⟩
 ·have hcode:=hbad.code
  have g3:(c !=0)=true:=by simp;omega
  have HX:=AC (show ExecErr k cs PL i s ss c from .inr ⟨AB HE,.inr ⟨AB HN0,.inr ⟨AB HND,.inl (by rw [AB HFO];exact hbad)⟩⟩⟩)
  unfold K1
  clear hp4 hb4 hbad hcode
  go_wp2
  go_ret2
  exact .inl ⟨c,AB HX,rfl,AB HB4⟩
 have HGD:=AC (show KU (fileOf k cs s) from by rw [AB HFO];exact hgood)
 have HOW4:=AC how4
 have hgq:=how4.lt gq rfl
 have hnl:(Am c0).length<=256:=GI hgood.2.2.1
 obtain ⟨n0,hn0⟩:∃n0,n0=(Am c0).length:=⟨_,rfl⟩
 rw [<-hn0] at HOW4 hnl
 rw [<-hn0]
 have HNN:=AC hn0
 obtain ⟨E,hE⟩:∃E,E=AW c0 24 8:=⟨_,rfl⟩
 rw [<-hE]
 have HEE:=AC hE
 clear hp4 hgood how4 hn0 hE
 have hac4:∀j,j<ss.length->w4.cell? (pK ab (aoff+j))=some (.string (ss.getD j ByteArray.empty)):=fun j hj=>by rw [(AB HB4).cell (p:=(pK ab (aoff+j))) hab];exact AB HAC j hj
 by_cases hok:CZ ss=true
 case neg=>
  have hok':CZ ss=false:=by simpa using hok
  have HST:=AC (Ol a ab aoff acap ss w4 hsn (AB HA) hac4 (AB HSS) hok')
  have HX:=AC (show ExecErr k cs PL i s ss 6 from .inr ⟨AB HE,.inr ⟨AB HN0,.inr ⟨AB HND,.inr ⟨AB HGD,.inl ⟨hok',rfl⟩⟩⟩⟩⟩)
  clear hok hok' hac4
  go_wp2_with fail
  refine (AB HST).mono ?_
  rintro e' w5 ⟨rfl,hw5⟩
  subst hw5
  go_wp2
  go_ret2
  exact .inl ⟨6,AB HX,rfl,AB HB4⟩
 have HST:=AC (Xl a ab aoff acap ss w4 hsn (AB HA) (by have:=(AB HB4).size;omega) hac4 hok)
 have HOK:=AC hok
 clear hok hac4
 go_wp2_with fail
 refine (AB HST).mono ?_
 rintro e' w5 ⟨g5,c5,rfl,how5,hb5⟩
 have hs5:=hb5.size
 have HB5:=AC ((AB HB4).trans (hb5.mono (AB HB4).size))
 have HOW5:=AC how5
 have HOW4':=AC (BO (AB HOW4) (AC hb5))
 have hg5:=how5.lt g5 rfl
 have HR5:=AC ((AB H).below (AB HB5))
 have HPR5:=AC (BO (AB HPR) HB5)
 have hPA:Hm w5 k.pv PL:=Zn (AB HPL) hpv (AB HPR5)
 have HUS:=AC (Ie base kb g cap k PL (cs.map List.length) oa on oc w5 (AB HR5) hPA hov (AB HC).lens (by omega) (by have:=(AB HPL).1;have:=(AB HPR).1;omega) (by omega) (by omega))
 clear how5 hb5 hPA HST HOW4 HLD HIN
 go_wp2_with fail
 refine (AB HUS).mono ?_
 rintro e' w6 ⟨rfl,hb6⟩
 simp only [BV]
 have hs6:=hb6.size
 obtain ⟨US,hUS⟩:∃US,US=(cs.map List.length).sum:=⟨_,rfl⟩
 rw [<-hUS]
 obtain ⟨PS,hPS⟩:∃PS,PS=PL.sum:=⟨_,rfl⟩
 rw [<-hPS]
 obtain ⟨W,hW⟩:∃W,W=w6.alloc (Obj.cells #[.int .i64 (PL.length:Int),.int .i64 (PS:Int),.int .i64 (on:Int),.int .i64 (k.inos.length:Int),.int .i64 (US:Int)] 70):=⟨_,rfl⟩
 have xb:W.cell? (pK w6.heap.size 1)=some (.int .i64 (PS:Int)):=by rw [hW];exact (AG.new w6 70 [.int .i64 (PL.length:Int),.int .i64 (PS:Int),.int .i64 (on:Int),.int .i64 (k.inos.length:Int),.int .i64 (US:Int)]).cell rfl
 have hbW:Below w5.heap.size w5 W:=hb6.trans (by rw [hW];exact (zw _ _).alloc hs6 _)
 have hWs:=hbW.size
 have HBW:=AC ((AB HB5).trans (hbW.mono (AB HB5).size))
 have HRW:=AC ((AB HR5).below hbW)
 have HPRW:=AC (BO (AB HPR5) (AC hbW))
 have HOWq:=AC (BO (AB HOW4') (AC hbW))
 have HOWs:=AC (BO (AB HOW5) (AC hbW))
 have hplen:PL.length=pn:=by have h1:=(AB HPL).1;have h2:=(AB HPR).1;omega
 obtain ⟨NP,hNP⟩:∃NP,PL[i]? =some NP:=⟨_,zz (by omega)⟩
 obtain ⟨pb,pd,hpb⟩:=(AB HPL).2 i NP hNP
 have d22:W.cell? (pK gp (i*31+22))=some (.slice pb NP pd):=by rw [(AB HPRW).cellAt _ (by omega)];exact hpb
 have d1:W.cell? (pK kb 1)=some (.int .i64 k.lf):=(AB HRW).1.cell rfl
 have hNS:NP<=PS:=by rw [hPS];exact Up (zv hNP)
 have hPS1:PS<=1000000:=by omega
 have HPS:=AC (And.intro hPS (show PL.getD i 0=NP from by rw [List.getD,hNP];rfl))
 have HWW:=AC hW
 have hgpW:gp<W.heap.size:=by omega
 have HPN:=AC hplen
 clear hb6 hUS hPS hbW hNP hpb HUS c3 c4 c7 hW hplen
 by_cases t7:k.lf<(PS:Int)-(NP:Int)+(n0:Int)+2
 ·have HX:=AC (show ExecErr k cs PL i s ss 7 from .inr ⟨AB HE,.inr ⟨AB HN0,.inr ⟨AB HND,.inr ⟨AB HGD,.inr ⟨AB HOK,by rw [AB HFO,<-AB HNN,<-(AB HPS).1,(AB HPS).2];exact t7,rfl⟩⟩⟩⟩⟩)
  go_wp2
  rw [<-AB HWW]
  go_quiet (fail)
  go_wp2
  go_ret2
  exact .inl ⟨7,AB HX,rfl,⟨(AB HBW).os,(AB HBW).tape,(AB HBW).output,(AB HBW).size,(AB HBW).block⟩⟩
 ·go_wp2
  rw [<-AB HWW]
  go_quiet (fail)
  have HOX:=AC (show ExecOk k cs PL i s ss from ⟨AB HE,AB HN0,AB HND,AB HGD,AB HOK,by rw [AB HFO,<-AB HNN,<-(AB HPS).1,(AB HPS).2];omega⟩)
  obtain ⟨ip,hip,hpz0,hpz1,hpz2⟩:=info_parts Mn
  have HIP:=AC (And.intro hip (And.intro hpz0 (And.intro hpz1 hpz2)))
  have hSl:(Di (Aa ss) 2).length=2*258:=by have:=(AB HOWs).1;omega
  have hS1:∀u∈Di (Aa ss) 2,u.oneCell'=true:=NL _
  obtain ⟨SR,hSR⟩:∃SR,SR=Di (Aa ss) 2:=⟨_,rfl⟩
  rw [<-hSR] at HOWs hSl hS1
  have HSR:=AC hSR
  have HSL:=AC (And.intro hSl hS1)
  have HNW:=AC (show ∀j u,SR[j]? =some u->(W.drewN nq).cell? (((pK g5 0):Addr).add j)=some u from fun j u hj=>by
   have hl:=(zy.1 hj).1
   rw [CN,zq]
   have h9:W.cell? (pK g5 j)=some u:=by rw [(AB HOWs).cellAt j (by omega)];exact hj
   exact h9)
  have HQ:=AC (show (W.drewN nq).ownsRow w3.heap.size 138 258 (.slice (some (pK gq 0)) n0 cq) n0 (Cd (Am c0)) from AB HOWq)
  have HP9:=AC (show (W.drewN nq).ownsRow base 80 31 (.slice (some (pK gp 0)) pn pc) pn PR from AB HPRW)
  have hw3s:w3.heap.size<=(W.drewN nq).heap.size:=by show w3.heap.size<=W.heap.size;omega
  have hgne:gp≠gq:=by omega
  clear hip hpz0 hpz1 hpz2 hSl hS1 hSR d22 d1 xb
  go_wp2_with (first
   |(at_builtin;refine wpList_append_lies _ (by rfl) _ _ 77 (by rfl) w3.heap.size 138 ip _ 258 272 Tryz.underlying77 (AB HIP).1 (AB HIP).2.1 (AB HIP).2.2.1 (AB HIP).2.2.2 (by simp [Value.cells,Ai,Ak]) (by decide) _ n0 _ (by rfl) (AB HQ) (pK g5 0) 2 c5 SR (by rfl) (AB HSL).1 (AB HNW) (AB HSL).2 (by omega) (by unfold maxLen;omega) (by omega) hw3s W.heap.size (by rfl) ?_
     intro g8 c8 w8 hown8 hgrow8 hat8 hlt8
     have r8:=(AB HP9).kept hgrow8 (.inr (by show some gp≠some gq;simpa using hgne))
     obtain ⟨r9,q9⟩:=r8.stored (i*31+22) (.slice (some (pK g8 0)) (n0+2) c8)
     obtain ⟨r10,q10⟩:=r9.stored (i*31+5) (.int .u64 E)
     obtain ⟨r11,q11⟩:=KV IQ (i*31+6) _ _ r10 (by simp only [yx];rw [(AB HPR).1];simp [IQ];omega)
     obtain ⟨W11,hW11⟩:∃W11,W11=((w8.setCell (pK gp (i*31+22)) (.slice (some (pK g8 0)) (n0+2) c8)).setCell (pK gp (i*31+5)) (.int .u64 E)).setCells gp (i*31+6) IQ.toArray.toList:=⟨_,rfl⟩
     have e11:((w8.setCell (pK gp (i*31+22)) (.slice (some (pK g8 0)) (n0+2) c8)).setCell (pK gp (i*31+5)) (.int .u64 E)).setCells gp (i*31+6) IQ=W11:=hW11.symm
     rw [e11] at r11 q11
     have HW11:=AC hW11
     clear e11 hW11
     obtain ⟨r12,q12⟩:=r11.stored (i*31+21) (.int .u64 (65024+(EE ss:Int)))
     have z22:=El r8 (i*31+22) (by omega)
     have z5:=El r9 (i*31+5) (by omega)
     have z21:=El r11 (i*31+21) (by omega)
     have zt:=Xn r10 (i*31+6) 16 (by omega)
     obtain ⟨o22,z22,f22⟩:=z22
     obtain ⟨o5,z5,f5⟩:=z5
     obtain ⟨o21,z21,f21⟩:=z21
     have ZT:=AC zt
     have R12:=AC r12
     have Q12:=AC (And.intro q9 (And.intro q10 (And.intro q11 q12)))
     clear r8 r9 r10 r11 r12 q9 q10 q11 q12 zt)
   |(refine wpList_store_mid rfl 76 (.tmp 104) (.tmp 102) rfl gp (i*31+6) IQ.toArray (by rfl) (by rfl) (AB ZT) Zo Xo ?_;rw [<-AB HW11]))
  obtain ⟨q9,q10,q11,q12⟩:=AB Q12
  have hgg:=EA (EA (EA q9 q10) q11) q12
  have hg8:=hown8.lt g8 rfl
  have hws:w.heap.size<=w3.heap.size:=(AB HB1).size
  have hbw:=AB HBW
  have hsz8:=hgrow8.size
  have hgw:w.grownBy (W11.setCell (pK gp (i*31+21)) (.int .u64 (65024+(EE ss:Int)))) (some gp):=
   ⟨hgg.os.trans (hgrow8.os.trans hbw.os),hgg.tape.trans (hgrow8.tape.trans hbw.tape),hgg.output.trans (hgrow8.output.trans hbw.output),zh hbw.size (zh hsz8 hgg.size),fun q hq hne=>
    (hgg.block q (by have:W.heap.size<=w8.heap.size:=hsz8;have:=hbw.size;omega) hne).trans ((hgrow8.block q (by show q<W.heap.size;have:=hbw.size;omega) (by show some q≠some gq;simp;omega)).trans (hbw.block q hq))⟩
  have hpg:=EJ (base':=w.heap.size) (hown8.kept hgg (.inr (by show some g8≠some gp;simp;omega))) hws
  go_ret2
  refine .inr ⟨AB HOX,rfl,hgw,g8,c8,?_,?_⟩
  ·rw [AB HFO,<-AB HNN,<-AB HSR];exact hpg
  ·rw [AB HFO,<-AB HNN,<-AB HEE];exact AB R12
structure AV where
 path:ByteArray
 dir:Bool
 bytes:List Int
def PK.put (p:PK) (f:AV):Int×PK:=if f.dir=true then p.mkdir f.path else (p.fileCode f.path f.bytes,p.fileOut f.path f.bytes)
def PK.puts:PK->List AV->Int×PK
 |p,[]=>(0,p)
 |p,f::r=>if (p.put f).1≠0 then ((p.put f).1,p) else (p.put f).2.puts r
structure MV (w:World) (pb poff db doff bb boff:Nat) (FZ:List AV):Prop where
 path:∀(i:Nat) (f:AV),FZ[i]? =some f->w.cell? (pK pb (poff+i))=some (.string f.path)
 dir:∀(i:Nat) (f:AV),FZ[i]? =some f->w.cell? (pK db (doff+i))=some (.bool f.dir)
 bytes:∀(i:Nat) (f:AV),FZ[i]? =some f->∃a q o c,w.cell? (pK bb (boff+i))=some (.slice a f.bytes.length c)/\(0<f.bytes.length->a=some (pK q o)/\q<w.heap.size)/\BC w q o f.bytes
def Fm (lp lf lo li lb:Int):Prop:=1<=lp/\lp<=16/\1<=lf/\lf<=1000/\0<=lo/\lo<=100000/\0<=li/\li<=100000/\0<=lb/\lb<=100000
def Im (c:Int):Ending:= .returned (.tuple #[.pointer none,.int .i64 c])
def root:Ino:=⟨1,0,ByteArray.empty,true,.slice none 0 0⟩
def B6 (lp lf lo li lb:Int):PK:=⟨lp,lf,lo,li,lb,1,[root],[[]]⟩
theorem QY (lp lf lo li lb:Int) (v1 v2 v3:Value) (w:World) (h:¬Fm lp lf lo li lb):
  Calls Tryz.prog 18 #[.agg #[.int .i64 lp,.int .i64 lf,.int .i64 lo,.int .i64 li,.int .i64 lb],v1,v2,v3] w fun e w'=>e=Im 6/\Below w.heap.size w w':=by
 have fin:∀(o1 o2:Obj),Below w.heap.size w ((w.alloc o1).alloc o2):=fun o1 o2=>((zw _ _).alloc (zx _) _).alloc (by simp) _
 have HF:=AC fin
 clear fin
 by_cases a1:1<=lp
 case neg=>
  clear h
  go_enter Tryz.func18,Tryz.ntmps18
  go_wp2
  go_ret2
  exact ⟨rfl,AB HF _ _⟩
 by_cases a2:lp<=16
 case neg=>
  clear h
  go_enter Tryz.func18,Tryz.ntmps18
  go_wp2
  go_ret2
  exact ⟨rfl,AB HF _ _⟩
 by_cases a3:1<=lf
 case neg=>
  clear h
  go_enter Tryz.func18,Tryz.ntmps18
  go_wp2
  go_ret2
  exact ⟨rfl,AB HF _ _⟩
 by_cases a4:lf<=1000
 case neg=>
  clear h
  go_enter Tryz.func18,Tryz.ntmps18
  go_wp2
  go_ret2
  exact ⟨rfl,AB HF _ _⟩
 by_cases a5:0<=lo
 case neg=>
  clear h
  go_enter Tryz.func18,Tryz.ntmps18
  go_wp2
  go_ret2
  exact ⟨rfl,AB HF _ _⟩
 by_cases a6:lo<=100000
 case neg=>
  clear h
  go_enter Tryz.func18,Tryz.ntmps18
  go_wp2
  go_ret2
  exact ⟨rfl,AB HF _ _⟩
 by_cases a7:0<=li
 case neg=>
  clear h
  go_enter Tryz.func18,Tryz.ntmps18
  go_wp2
  go_ret2
  exact ⟨rfl,AB HF _ _⟩
 by_cases a8:li<=100000
 case neg=>
  clear h
  go_enter Tryz.func18,Tryz.ntmps18
  go_wp2
  go_ret2
  exact ⟨rfl,AB HF _ _⟩
 by_cases a9:0<=lb
 case neg=>
  clear h
  go_enter Tryz.func18,Tryz.ntmps18
  go_wp2
  go_ret2
  exact ⟨rfl,AB HF _ _⟩
 by_cases a10:lb<=100000
 case neg=>
  clear h
  go_enter Tryz.func18,Tryz.ntmps18
  go_wp2
  go_ret2
  exact ⟨rfl,AB HF _ _⟩
 exact absurd ⟨a1,a2,a3,a4,a5,a6,a7,a8,a9,a10⟩ h
def rk0 (lp lf lo li lb:Int):RK:=⟨lp,lf,lo,li,lb,.slice none 0 0,.slice none 0 0,.slice none 0 0,.slice none 0 0,.slice none 0 0,.slice none 0 0,[],0⟩
def rk1 (lp lf lo li lb:Int):RK:={rk0 lp lf lo li lb with inos:=[root],last:=1}
theorem ci (lp lf lo li lb:Int):Ho (rk1 lp lf lo li lb):=by
 refine ⟨fun x hx=> ?_,⟨root,by simp [rk1],rfl⟩,Int.le_refl 1⟩
 have:x=root:=by simpa [rk1] using hx
 subst this;exact Int.le_refl 1
def IT (lp lf lo li lb:Int) (k:RK):Prop:={k with inos:=[],last:=0}=rk0 lp lf lo li lb
theorem IT.add {lp lf lo li lb:Int} {k:RK} (h:IT lp lf lo li lb k) (dir:Int) (name:ByteArray) (is:Bool):IT lp lf lo li lb (k.add dir name is):=h
theorem IT.pv {lp lf lo li lb:Int} {k:RK} (h:IT lp lf lo li lb k):k.pv= .slice none 0 0:=congrArg RK.pv h
theorem IT.ov {lp lf lo li lb:Int} {k:RK} (h:IT lp lf lo li lb k):k.ov= .slice none 0 0:=congrArg RK.ov h
theorem IT.opened {lp lf lo li lb:Int} {k:RK} (h:IT lp lf lo li lb k) (cs:List (List Int)) (s:ByteArray):IT lp lf lo li lb (Go.Proofs.YtdchgbmliojoiaaGreatDoor.opened k cs s).1:=by
 unfold Go.Proofs.YtdchgbmliojoiaaGreatDoor.opened
 split
 ·exact h.add _ _ _
 ·exact h
theorem IT.file {lp lf lo li lb:Int} {k k':RK} (h:IT lp lf lo li lb k) {cs:List (List Int)} {s:ByteArray} (hk:{k' with inos:=[]}={(Go.Proofs.YtdchgbmliojoiaaGreatDoor.opened k cs s).1 with inos:=[]}):IT lp lf lo li lb k':=by
 have h1:=h.opened cs s
 unfold IT at h1 ⊢
 rw [<-h1]
 exact congrArg (fun x:RK=>{x with last:=0}) hk
theorem IT.mkdir {lp lf lo li lb:Int} {k:RK} (h:IT lp lf lo li lb k) (s:ByteArray):IT lp lf lo li lb (CW k s).2:=by
 unfold CW
 split
 ·exact h
 split
 ·exact h
 split
 ·exact h
 ·exact h.add _ _ _
theorem K3 {p q:PK} {FZ:List AV} {j:Nat} {f:AV} (h:p.puts (FZ.take j)=(0,q)) (hf:FZ[j]? =some f) (h1:(q.put f).1=0):p.puts (FZ.take (j+1))=(0,(q.put f).2):=by
 have e:FZ.take (j+1)=FZ.take j++[f]:=by rw [List.take_add_one,hf];rfl
 rw [e]
 generalize FZ.take j=l at h
 induction l generalizing p with
 |nil=>
  have:p=q:=by have:=congrArg Prod.snd h;exact this
  subst this
  show PK.puts p [f]=_
  unfold PK.puts
  rw [if_neg (by rw [h1];decide)];rfl
 |cons a r ih=>
  show PK.puts p (a::(r++[f]))=_
  unfold PK.puts at h ⊢
  split at h
  ·rename_i hx
   exact absurd (congrArg Prod.fst h) hx
  ·rename_i hx
   rw [if_neg hx]
   exact ih h
theorem K4 {p q:PK} {FZ:List AV} {j:Nat} {f:AV} (h:p.puts (FZ.take j)=(0,q)) (hf:FZ[j]? =some f) (h1:(q.put f).1≠0):(p.puts FZ).1=(q.put f).1:=by
 have e:FZ=FZ.take j++f::FZ.drop (j+1):=by
  obtain ⟨hl,hg⟩:=zy.1 hf
  have e2:FZ.drop j=f::FZ.drop (j+1):=by rw [List.drop_eq_getElem_cons hl,hg]
  rw [<-e2,List.take_append_drop]
 rw [e]
 generalize FZ.drop (j+1)=t
 clear e hf
 generalize FZ.take j=l at h
 induction l generalizing p with
 |nil=>
  have:p=q:=by have:=congrArg Prod.snd h;exact this
  subst this
  show (PK.puts p (f::t)).1=_
  unfold PK.puts
  rw [if_pos h1]
 |cons a r ih=>
  show (PK.puts p (a::(r++f::t))).1=_
  unfold PK.puts at h ⊢
  split at h
  ·rename_i hx
   exact absurd (congrArg Prod.fst h) hx
  ·rename_i hx
   rw [if_neg hx]
   exact ih h
theorem Zp {k:RK} {cs:List (List Int)} {f:AV} (hd:f.dir=true):((k.toP cs).put f).1=(CW k f.path).1/\((CW k f.path).1=0->((k.toP cs).put f).2=(CW k f.path).2.toP (cs++[[]])):=by
 unfold PK.put
 rw [if_pos hd]
 exact XY k cs f.path
theorem Xp {k:RK} {cs:List (List Int)} {f:AV} (hd:f.dir=false):((k.toP cs).put f).1=fileCode k cs f.path f.bytes/\∀k':RK,k'.inos.map erase=(Go.Proofs.YtdchgbmliojoiaaGreatDoor.opened k cs f.path).1.inos.map erase->{k' with inos:=[]}={(Go.Proofs.YtdchgbmliojoiaaGreatDoor.opened k cs f.path).1 with inos:=[]}->((k.toP cs).put f).2=k'.toP (FH k cs f.path f.bytes):=by
 unfold PK.put
 rw [if_neg (by rw [hd];decide)]
 exact ⟨ZX k cs f.path f.bytes,fun k' h1 h2=>SG k k' cs f.path f.bytes h1 h2⟩
theorem Xq {k:RK} {s:ByteArray} (h:(CW k s).1=0):(CW k s).2=k.add (AN k.inos s).dir (AN k.inos s).name true:=by
 unfold CW at h ⊢
 split at h
 ·rename_i h1;exact absurd h h1
 rename_i h1
 rw [if_neg h1]
 split at h
 ·exact absurd h (show ¬(10:Int)=0 by decide)
 rename_i h2
 rw [if_neg h2]
 split at h
 ·exact absurd h (show ¬(12:Int)=0 by decide)
 rename_i h3
 rw [if_neg h3]
theorem FK (cs:List (List Int)):AU (cs++[[]])=AU cs:=by simp [AU]
theorem KW:∀(cs:List (List Int)) (K:Nat) (c:List Int),AU (cs.set K c)<=AU cs-(cs.getD K []).length+c.length/\(cs.getD K []).length<=AU cs
 |[],K,c=>by simp [AU]
 |a::r,0,c=>by simp [AU];omega
 |a::r,K+1,c=>by
  have ih:=KW r K c
  have e1:AU ((a::r).set (K+1) c)=a.length+AU (r.set K c):=by simp [AU]
  have e2:AU (a::r)=a.length+AU r:=by simp [AU]
  have e3:(a::r).getD (K+1) []=r.getD K []:=by simp
  rw [e1,e2,e3];omega
theorem Ll (k:RK) (cs:List (List Int)) (s:ByteArray):AU (Go.Proofs.YtdchgbmliojoiaaGreatDoor.opened k cs s).2.1=AU cs:=by
 unfold Go.Proofs.YtdchgbmliojoiaaGreatDoor.opened
 split
 ·exact FK cs
 ·rfl
theorem Se (k:RK) (cs:List (List Int)) (s:ByteArray) (B:List Int):AU (FH k cs s B)<=AU cs+B.length:=by
 unfold FH
 split
 ·rw [Ll];omega
 ·have h:=KW (Go.Proofs.YtdchgbmliojoiaaGreatDoor.opened k cs s).2.1 (BK (Go.Proofs.YtdchgbmliojoiaaGreatDoor.opened k cs s).1.inos (Go.Proofs.YtdchgbmliojoiaaGreatDoor.opened k cs s).2.2).toNat (Ee (IN (Go.Proofs.YtdchgbmliojoiaaGreatDoor.opened k cs s)) B)
  rw [G2 (M:=max B.length (IN (Go.Proofs.YtdchgbmliojoiaaGreatDoor.opened k cs s)).length) rfl,Ll] at h
  have e:IN (Go.Proofs.YtdchgbmliojoiaaGreatDoor.opened k cs s)=(Go.Proofs.YtdchgbmliojoiaaGreatDoor.opened k cs s).2.1.getD (BK (Go.Proofs.YtdchgbmliojoiaaGreatDoor.opened k cs s).1.inos (Go.Proofs.YtdchgbmliojoiaaGreatDoor.opened k cs s).2.2).toNat []:=rfl
  rw [<-e] at h
  omega
theorem CB {B:List Int}:AY B↔∀x∈B,0<=x/\x<=255:=by
 constructor
 ·intro h x hx
  obtain ⟨j,hj⟩:=yo.1 hx
  have:=h j
  rw [zl,hj] at this
  exact this
 ·intro h j
  rw [zl]
  cases hj:B[j]? with
  |none=>exact ⟨Int.le_refl 0,by decide⟩
  |some x=>exact h x (zv hj)
def CC (cs:List (List Int)):Prop:=∀c∈cs,AY c
theorem KX:CC [[]]:=fun c hc=>by
 have:c=[]:=by simpa using hc
 subst this
 exact CB.2 (fun x hx=>absurd hx (by simp))
theorem CC.snoc {cs:List (List Int)} (h:CC cs):CC (cs++[[]]):=by
 intro c hc
 rcases List.mem_append.1 hc with h1|h1
 ·exact h c h1
 ·have:c=[]:=by simpa using h1
  subst this;exact CB.2 (fun x hx=>absurd hx (by simp))
theorem CC.opened {cs:List (List Int)} (h:CC cs) (k:RK) (s:ByteArray):CC (Go.Proofs.YtdchgbmliojoiaaGreatDoor.opened k cs s).2.1:=by
 unfold Go.Proofs.YtdchgbmliojoiaaGreatDoor.opened
 split
 ·exact h.snoc
 ·exact h
theorem CC.file {cs:List (List Int)} (h:CC cs) (k:RK) (s:ByteArray) {B:List Int} (hB:AY B):CC (FH k cs s B):=by
 unfold FH
 split
 ·exact h.opened k s
 ·intro c hc
  rcases List.mem_or_eq_of_mem_set hc with h1|h1
  ·exact h.opened k s c h1
  ·subst h1
   have ho:AY (IN (Go.Proofs.YtdchgbmliojoiaaGreatDoor.opened k cs s)):=by
    unfold IN
    rw [zl]
    cases hg:(Go.Proofs.YtdchgbmliojoiaaGreatDoor.opened k cs s).2.1[(BK (Go.Proofs.YtdchgbmliojoiaaGreatDoor.opened k cs s).1.inos (Go.Proofs.YtdchgbmliojoiaaGreatDoor.opened k cs s).2.2).toNat]? with
    |none=>exact CB.2 (fun x hx=>absurd hx (by simp))
    |some c=>exact h.opened k s c (zv hg)
   refine CB.2 (fun x hx=> ?_)
   unfold Ee at hx
   rcases List.mem_append.1 hx with h2|h2
   ·exact CB.1 hB x h2
   ·exact CB.1 ho x (List.mem_of_mem_drop h2)
def PK.fileOf (p:PK) (s:ByteArray):List Int:=p.cs.getD (BK p.xs (AN p.xs s).n).toNat []
def PK.ExecErr (p:PK) (PL:List Nat) (i:Nat) (s:ByteArray) (ss:List ByteArray) (c:Int):Prop:=
 (AN p.xs s).e≠0/\c=(AN p.xs s).e\/(AN p.xs s).e=0/\((AN p.xs s).n=0/\c=9\/(AN p.xs s).n≠0/\(CI p.xs (AN p.xs s).n=true/\c=11\/
  CI p.xs (AN p.xs s).n=false/\(Bad (p.fileOf s) c\/KU (p.fileOf s)/\(CZ ss=false/\c=6\/
   CZ ss=true/\p.lf<(PL.sum:Int)-(PL.getD i 0:Int)+((Am (p.fileOf s)).length:Int)+2/\c=7))))
def PK.ExecOk (p:PK) (PL:List Nat) (i:Nat) (s:ByteArray) (ss:List ByteArray):Prop:=
 (AN p.xs s).e=0/\(AN p.xs s).n≠0/\CI p.xs (AN p.xs s).n=false/\KU (p.fileOf s)/\CZ ss=true/\(PL.sum:Int)-(PL.getD i 0:Int)+((Am (p.fileOf s)).length:Int)+2<=p.lf
theorem Hw (k:RK) (cs:List (List Int)) (s:ByteArray):(k.toP cs).fileOf s=Go.Proofs.YtdchgbmliojoiaaGreatDoor.fileOf k cs s:=by
 unfold PK.fileOf Go.Proofs.YtdchgbmliojoiaaGreatDoor.fileOf
 show cs.getD (BK (k.inos.map erase) (AN (k.inos.map erase) s).n).toNat []=_
 rw [EP,Gn]
theorem Sf {k:RK} {cs:List (List Int)} {PL:List Nat} {i:Nat} {s:ByteArray} {ss:List ByteArray} {c:Int} (h:ExecErr k cs PL i s ss c):(k.toP cs).ExecErr PL i s ss c:=by
 unfold PK.ExecErr
 rw [Hw,show AN (k.toP cs).xs s=AN k.inos s from EP k.inos s,show ∀n,CI (k.toP cs).xs n=CI k.inos n from GV k.inos]
 exact h
theorem Uq {k:RK} {cs:List (List Int)} {PL:List Nat} {i:Nat} {s:ByteArray} {ss:List ByteArray} (h:ExecOk k cs PL i s ss):(k.toP cs).ExecOk PL i s ss:=by
 unfold PK.ExecOk
 rw [Hw,show AN (k.toP cs).xs s=AN k.inos s from EP k.inos s,show ∀n,CI (k.toP cs).xs n=CI k.inos n from GV k.inos]
 exact h
end Go.Proofs.YtdchgbmliojoiaaGreatDoor
