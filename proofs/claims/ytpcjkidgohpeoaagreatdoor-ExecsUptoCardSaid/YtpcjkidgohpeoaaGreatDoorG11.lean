import Derived.Test.YtpcjkidgohpeoaaGreatDoorG09
import Derived.Test.YtpcjkidgohpeoaaGreatDoorG06
set_option maxRecDepth 100000
set_option maxHeartbeats 4000000
set_option linter.all false
namespace Go.Proofs.YtpcjkidgohpeoaaGreatDoor
open RowKit Proofs.Tryz
variable (xs:List Ino) (a b n:Int) (B L:List Int) (k m:Nat) (x:Int)
def NT (c:Int):Ending:= .returned (.tuple #[sN,uV 0,iV c])
def Bv (s:Seg):List Value:=[iV s.perm,uV s.offs,uV s.addr,uV s.inFile,uV s.mem]
def Dl (ss:List Seg):List Value:=ss.flatMap Bv
def Ys:(prog.info? 286).map (λi=>(i.zero,i.size,i.bytes))=some (some (.agg #[iV 0,uV 0,uV 0,uV 0,uV 0]),5,40):=kf
def Bb (B:List Int):List Seg:=BU B (CH B)
def QE (E:Int) (PS:List Pg):Prop:=E%4=0/\E<65536/\∃q∈PS,q.num=E/256/\bits BinOp.and IntKind.i64 q.perm 1=1
def Ht (B:List Int) (w:World) (e:Ending) (w':World):Prop:=
 (¬CO B/\e=NT 2\/CO B/\¬Jl B/\e=NT 3\/CO B/\Jl B/\
  ((∃p,p<256/\1<(Bb B).countP (λs=>cov s p))/\e=NT 4\/
   (∀p,p<256->(Bb B).countP (λs=>cov s p)<=1)/\(¬QE (AO B 24 8) (Bl B (Bb B) 256)/\e=NT 5\/
    QE (AO B 24 8) (Bl B (Bb B) 256)/\∃g gc,e= .returned (.tuple #[sL g 0 (Bl B (Bb B) 256).length gc,uV (AO B 24 8),iV 0])/\
     w'.ownsRow w.heap.size 136 258 (sL g 0 (Bl B (Bb B) 256).length gc) (Bl B (Bb B) 256).length (As (Bl B (Bb B) 256)))))/\Bw w w'
def SG:BU B (k+1)=BU B k++[D7 B (64+56*k)]:=by simp [BU,qf]
def PJ:Dl (BU B (k+1))=Dl (BU B k)++Bv (D7 B (64+56*k)):=by
 rw [SG,Dl,Dl,ur];simp
def Yt (w:World):(Instr.build 136 #[(0,iV n)]).run prog w= .ok (.agg (AY n 0 An).toArray) w:=kf
def QF (h0:0<=x) (h1:x<1000000):wrap64 (IntKind.u64.wrap x)=x:=by
 rw [show IntKind.u64.wrap x=x from by rw [yh];omega];unfold wrap64;omega
def Vl (h:m<L.length):(AY a b L)[2+m]? =some (.int .u8 (L.getD m 0)):=by
 rw [show 2+m=m+2 from om];exact AN L m h
def Vm:(AY a b L).set (2+m) (.int .u8 x)=AY a b (L.set m x):=by
 rw [show 2+m=m+2 from om];show iV a:: iV b::(AF L).set m (.int .u8 x)=_;rw [Cz];rfl
def OE:∀(fs:List Seg) (j i:Nat) (s:Seg) (v:Value),fs[j]? =some s->i<5->(Bv s)[i]? =some v->(Dl fs)[j*5+i]? =some v
 |[],j,i,s,v,h,_,_=>by simp at h
 |a::r,0,i,s,v,h,hi,hv=>by
  have e:a=s:=sU h;subst e
  rw [Dl,vi,zo (by simp [Bv];omega),Nat.zero_mul,zq];exact hv
 |a::r,j+1,i,s,v,h,hi,hv=>by
  have ih:=OE r j i s v (sU h) hi hv;rw [Dl,vi,zn (by simp [Bv];omega)];rw [Dl] at ih;rw [<-ih];congr 1;simp [Bv];omega
def Yu {B:List Int} {fs:List Seg} (h0:0<fs.length) (hf:∀s∈fs,Ew B s):0<(Bl B fs 256).length:=by
 obtain ⟨s,hs⟩:∃s,s∈fs:=⟨fs[0],rp _⟩;obtain ⟨e1,e2,e3,e4⟩:=Ff (hf s hs);have hc:cov s (s.addr.toNat/256)=true:=by rw [Fq];omega
 refine rl (a:=⟨((s.addr.toNat/256:Nat):Int),s.perm,Cj B s (s.addr.toNat/256)⟩) ?_;unfold Bl;refine sy.2 ⟨s.addr.toNat/256,zf.2 om,yt.2 ⟨s,vk.2 ⟨hs,hc⟩,rfl⟩⟩
def I9:∀(PS:List Pg) (j i:Nat) (q:Pg),(∀p∈PS,p.bytes.length=256)->PS[j]? =some q->i<258->∀v,(AY q.num q.perm q.bytes)[i]? =some v->(As PS)[j*258+i]? =some v
 |[],j,i,q,_,h,_,v,_=>by simp at h
 |a::r,0,i,q,hb,h,hi,v,hv=>by
  have e:a=q:=sU h;subst e
  rw [As,vi,zo (by rw [Ac,hb _ ym];omega),Nat.zero_mul,zq];exact hv
 |a::r,j+1,i,q,hb,h,hi,v,hv=>by
  have ih:=I9 r j i q (λp hp=>hb p (ut _ hp)) (sU h) hi v hv;have hl:=hb a ym;have e:(j+1)*258+i-(256+2)=j*258+i:=om;have e2:As (a::r)=AY a.num a.perm a.bytes++As r:=by rw [As,vi];rfl
  rw [e2,zn (by rw [Ac,hl];omega),Ac,hl,e];exact ih
def Hg {B:List Int} {ss:List Seg}:∀{p:Nat},(∀q,q<p->ss.countP (λs=>cov s q)<=1)->(Bl B ss p).length<=p
 |0,_=>by simp [Bl]
 |p+1,h=>by
  have h1:=Hg (B:=B) (p:=p) (λq hq=>h q om);have h2:=h p om;rw [qr] at h2;rw [Hs,zm,zc];omega
def iC (b off b2:Nat) (B:List Int) (w:World) (hB:AK B) (c5:B.length<=b2) (V:B.length<=500000) (hv:Am w b off B) (k7:b<w.heap.size):
  cT 84 #[sL b off B.length b2] w λe w'=>Ht B w e w':=by
 have HH:=AC (SF b off b2 B w hB c5 om hv);have HB:=AC hB;have HV:=AC hv;have I:=AC (xi c5 V);clear hB hv c5 V;go_enter func84,ntmps84
 go_wp2_with fail
 refine HH.mono ?_;rintro e w1 ⟨n,ok,rfl,p3,m0,hn⟩;subst p3;have j4:=AC m0;have HN:=AC hn;clear m0 hn HH;cases ok
 ·go_wp2;exact xh (v:= .tuple #[sN,uV 0,iV 2]) (by simp [results,results84,go_sem]) rfl ⟨.inl ⟨λh=>by (have:=j4.2 h;cases this),rfl⟩,zw _ _⟩
 have a5:CO B:=j4.1 rfl
 have q8:n=((CH B:Nat):Int):=by
  have h1:=(AB HN) a5;have h2:=a5.2.2.2.2.2.2.2.2.1;rw [h1,CH];omega
 have p8:1<=CH B:=by have h2:=a5.2.2.2.2.2.2.2.2.1;rw [CH];omega
 have n0:CH B<=8:=by have h2:=a5.2.2.2.2.2.2.2.2.2.1;rw [CH];omega
 have r9:64+56*CH B<=B.length:=by (have h1:=a5.2.2.2.2.2.2.2.2.1;have h2:=a5.2.2.2.2.2.2.2.2.2.2;rw [CH];omega)
 subst q8;have c7:=AC a5;obtain ⟨N,hN⟩:=xE (CH B);rw [<-hN] at p8 n0 r9 ⊢;have i3:=AC hN;obtain ⟨is,m8,o5,n5,n9⟩:=info_parts Ys;have f5:=AC (xi m8 (xi o5 (xi n5 n9)));clear a5 hN HN j4 m8 o5 n5 n9;go_wp2
 go_loopw [7,8] (λl k wr=>∃j:Nat,j<=N/\k= iV j/\Hid (∀i,i<j->GW B (64+56*i))/\Hid (wr.ownsRow w1.heap.size 286 5 l j (Dl (BU B j)))/\Hid (Bw w1 wr)) (λ_ k _=>N-(intOf k).toNat)
 case atStart=>exact ⟨0,om,rfl,AC (λi hi=>om),AC (uy _ _ _ _),AC (zw _ _)⟩
 case round=>
  obtain ⟨k,hk,rfl,HA,i4,J⟩:=hrel;by_cases s8:k<N
  ·have o4:Am wr b off B:=HV.below J k7;have l2:b<wr.heap.size:=o1 J.size;have r0:=AC (LX b off b2 B k wr HB I.1 (o1 (AB I)) o4 l2 om om);clear o4
   go_wp2_with fail
   refine r0.mono ?_;rintro e w2 ⟨(⟨f8,rfl⟩|⟨o7,x0,x1,x2,x3,x4,rfl⟩),b5⟩
   case inr=>
    have r7:=AC o7;have k6:=AC (J.trans (b5.mono J.size));clear o7 b5;go_wp2;exact xh (v:= .tuple #[sN,uV 0,iV 3]) (by simp [results,results84,go_sem]) rfl ⟨.inr (.inl ⟨AB c7,λh=>AB r7 (h k (o1 (AB i3))),rfl⟩),k6.alloc (o1 k6.size) _⟩
   have r5:=AC f8;have k6:=AC b5;have t5:=b5.size;obtain ⟨s,hs⟩:=xE (D7 B (64+56*k));rw [<-hs];have HS:=AC hs;have h8:=AC (Aw i4 (AC b5));have k4:=AC (J.trans (b5.mono J.size));obtain ⟨o,ho⟩:=xE (Obj.cells (Bv s).toArray 286)
   have o3:∀j u,(Bv s)[j]? =some u->((w2.alloc o).alloc o).cell? (((xK (w2.heap.size+1) 0):Addr).add j)=some u:=by
    have h:=AE.new (w2.alloc o) 286 (Bv s);rw [<-ho] at h;intro j u hj;rw [Ah,zq];have:=h.cell hj;simpa using this
   have p2:=AC o3;have HO:=AC ho;have a0:w1.heap.size<=wr.heap.size:=J.size;have t9:k<=8:=om;clear f8 b5 hs o3 ho;unfold Kc
   go_wp2_with (at_builtin;refine wpList_append_lies _ (by rfl) _ _ 284 (by rfl) w1.heap.size 286 is _ 5 40 underlying284 f5.1 f5.2.1 f5.2.2.1 f5.2.2.2 rfl dz _ _ _ (by rfl) ((h8.alloc _).alloc _) (xK (w2.heap.size+1) 0) 1 1 (Bv s) (by rfl) (by rfl) (by have h:=AB p2;rw [AB HO] at h;exact h) (by intro u hu;simp only [Bv,vp,uu,or_false] at hu;rcases hu with rfl|rfl|rfl|rfl|rfl<;>rfl) om (by unfold maxLen;omega) om sO (w2.heap.size+2) sI ?_;intro g b8 w5 a3 U j7 p7)
   have q1:w5.ownsRow w1.heap.size 286 5 (sL g 0 (k+1) b8) (k+1) (Dl (BU B (k+1))):=by rw [PJ,<-AB HS];exact a3
   have q2:Bw w1 w5:=((k4.alloc om _).alloc sO _).grown U sO (by intro q h;have:=h8.lt q h;omega);have Q1:=AC q1;have Q2:=AC q2;clear a3 U j7 q1 q2
   go_roundw
   case rel=>exact ⟨k+1,om,by go_num,AC (λi hi=>by rcases sj.1 hi with h|h;exact AB HA i h;rw [h];exact AB r5),Q1,Q2⟩
   case measure=>simp [intOf];omega
  ·have p9:k=N:=om;subst p9;obtain ⟨W2,r2⟩:=xE wr;subst r2;obtain ⟨gl,cl,q9,s9,q6⟩:=i4.form om;subst q9;obtain ⟨fs,g4⟩:=xE (BU B k);rw [<-g4] at i4;have t0:fs.length=k:=by rw [g4,FY]
   have b1:Hid (∀s∈fs,Ew B s):=P6 (AB HB) (AB HA) (by rw [g4]);have i0:=AC (show fs=Bb B from by rw [g4,Bb,<-AB i3]);have d7:Hid (Jl B):=λi hi=>AB HA i (by rw [AB i3];exact hi);have a0:w1.heap.size<=W2.heap.size:=J.size;obtain ⟨ip,m5,h6,g7,h7⟩:=info_parts Jo;have b0:=AC (xi m5 (xi h6 (xi g7 h7)));clear g4 HA i3 f5 m5 h6 g7 h7;go_wp2
   go_loopw [11,12] (λv i wr=>∃p:Nat,p<=256/\i= iV p/\Hid (∀q,q<p->fs.countP (λs=>cov s q)<=1)/\Hid (wr.ownsRow W2.heap.size 136 258 v (Bl B fs p).length (As (Bl B fs p)))/\Hid (Bw W2 wr)) (λ_ i _=>256-(intOf i).toNat)
   case atStart=>exact ⟨0,om,rfl,AC (λq hq=>om),AC (uy _ _ _ _),AC (zw _ _)⟩
   case round=>
    obtain ⟨p,hp,rfl,HC,a7,G⟩:=hrel;by_cases j8:p<256
    ·obtain ⟨W3,q4⟩:=xE wr;subst q4;have Z:W2.heap.size<=W3.heap.size:=G.size
     go_wp2_with (first|(refine E8 rfl 136 _ rfl #[(0,iV p)] rfl (.agg (AY p 0 An).toArray) (Yt p) ?_)|(refine Bh rfl 136 rfl (AY 0 0 An).toArray NQ ?_)|(refine Bo rfl 136 _ _ rfl W3.heap.size (AY p 0 An) (by rfl) (by rfl) 136 (AY 0 0 An) (AE.new _ _ _) (by rw [Ih,Ac,AT]) (by rw [Ac,Ac]) (D8 _ _ _) ?_;intro w6 r3 m2))
     have p4:Hid (Bw W3 w6):=((zw W3.heap.size W3).alloc (zx _) _).trans (Aa m2 (zx _) sI);clear m2
     go_loopw [14,15] (λc i wk=>∃j:Nat,∃C:Int,∃L:List Int,j<=k/\i= iV j/\c= iV ((fs.take j).countP (λs=>cov s p):Nat)/\Hid (I8 B (fs.take j) p C L)/\Hid (AE wk W3.heap.size 136 (AY p C L))/\Hid (Bw W3 wk)) (λ_ i _=>k-(intOf i).toNat)
     case atStart=>exact ⟨0,0,An,om,rfl,rfl,AC (Vj B p),r3,p4⟩
     case round=>
      obtain ⟨j,C,L,hj,rfl,rfl,b3,i6,b7⟩:=hrel;obtain ⟨W4,r1⟩:=xE wr;subst r1;have d9:=b7.size;obtain ⟨c,hc⟩:=xE ((fs.take j).countP (λs=>cov s p));rw [<-hc];have n0:c<=8:=by rw [hc];have h1:=List.countP_le_length (p:=λs=>cov s p) (l:=fs.take j);have h2:=List.length_take_le j fs;omega
      have a6:=AC hc;clear hc;by_cases t6:j<k
      ·obtain ⟨s,hs⟩:=xE (fs.getD j EW);have g8:fs[j]? =some s:=by rw [hs,List.getD,zz om];rfl
       have a9:fs.take (j+1)=fs.take j++[s]:=by rw [uw,g8];rfl
       have j6:=AB b1 s (zv g8);have d8:Bw W2 W4:=G.trans (b7.mono Z)
       have cc:∀i v,i<5->(Bv s)[i]? =some v->W4.cell? (xK gl (j*5+i))=some v:=λi v hi hv=>by
        rw [d8.cell (p:=(xK gl (j*5+i))) q6,i4.cellAt _ om];exact OE fs j i s v g8 hi hv
       have HS:=AC (xi g8 a9);clear g8 a9 hs d8;obtain ⟨P,O,A,F,M⟩:=s;obtain ⟨A0,O0,F0,M1,c6,b9,b4⟩:=j6;simp only at A0 O0 F0 M1 c6 b9 b4;have c0:W4.cell? (xK gl (j*5))=some (iV P):=cc 0 _ om rfl;have c1:cE W4 gl (j*5+1) (uV O):=cc 1 _ om rfl;have c2:cE W4 gl (j*5+2) (uV A):=cc 2 _ om rfl;have c3:cE W4 gl (j*5+3) (uV F):=cc 3 _ om rfl;have c4:cE W4 gl (j*5+4) (uV M):=cc 4 _ om rfl;clear cc;obtain ⟨o,ho⟩:=xE (Obj.cells #[iV P,uV O,uV A,uV F,uV M] 286);have i7:=i6.alloc o;have l8:=AC i7;have l4:=AC (b7.alloc d9 o);have p1:(W4.alloc o).cell? (xK W3.heap.size 1)=some (iV C):=i7.cell rfl;have pf:=i7.frozen 1;rw [ho] at p1 pf;have s1:=i6.lt;have HO:=AC ho;obtain ⟨FI,j1⟩:∃x,x=A/256:=⟨_,rfl⟩;obtain ⟨LA,j9⟩:∃x,x=(A+M-1)/256:=⟨_,rfl⟩;have y1:wrap64 (IntKind.u64.wrap (A.tdiv 256))=FI:=by rw [j1,tj A0];exact QF _ om om
       have y2:IntKind.u64.wrap (A+M)=A+M:=by rw [yh];omega
       have y3:IntKind.u64.wrap (A+M-1)=A+M-1:=by rw [yh];omega
       have y4:wrap64 (IntKind.u64.wrap ((A+M-1).tdiv 256))=LA:=by rw [j9,tj om];exact QF _ om om
       have g9:cov ⟨P,O,A,F,M⟩ p=true↔FI<=(p:Int)/\(p:Int)<=LA:=by rw [Fq,j1,j9];rfl
       have k0:=AC g9;have s7:(0:Int)<=(j:Int):=om;have s3:(j:Int)<(k:Int):=om;have k2:=AC (xi A0 (xi O0 (xi F0 (xi M1 (xi c6 (xi b9 b4))))));clear i7 ho j1 j9 g9 c6 b9 b4 M1 O0 F0 A0;by_cases t1:(p:Int)<FI
       ·go_wp2
        go_roundw
        case rel=>
         have g0:cov ⟨P,O,A,F,M⟩ p=false:=by rw [Bool.eq_false_iff];intro h;have:=k0.1 h;omega
         refine ⟨j+1,C,L,om,by go_num,?_,AC ?_,?_,?_⟩
         ·rw [HS.2,Jq,g0,<-AB a6];simp
         ·rw [HS.2];exact OD (AB b3) g0
         ·have:=l8;rw [AB HO] at this;exact this
         ·have:=l4;rw [AB HO] at this;exact this
        case measure=>simp [intOf];omega
       by_cases t2:LA<(p:Int)
       ·go_wp2
        go_roundw
        case rel=>
         have g0:cov ⟨P,O,A,F,M⟩ p=false:=by rw [Bool.eq_false_iff];intro h;have:=k0.1 h;omega
         refine ⟨j+1,C,L,om,by go_num,?_,AC ?_,?_,?_⟩
         ·rw [HS.2,Jq,g0,<-AB a6];simp
         ·rw [HS.2];exact OD (AB b3) g0
         ·have:=l8;rw [AB HO] at this;exact this
         ·have:=l4;rw [AB HO] at this;exact this
        case measure=>simp [intOf];omega
       have o2:Hid (cov ⟨P,O,A,F,M⟩ p=true):=k0.2 ⟨om,om⟩;have n4:Hid (AE ((W4.setCell (xK W3.heap.size 1) (iV P)).alloc o) W3.heap.size 136 (AY p P L)):=(i6.set 1 (iV P)).alloc o;have a8:(W4.setCell (xK W3.heap.size 1) (iV P)).heap.size=W4.heap.size:=by simp [World.setCell]
       have o9:=AC ((b7.setCell (p:=(xK W3.heap.size 1)) (zx _) (iV P)).alloc (by rw [a8];exact d9) o)
       have o8:=AC (show AE ((W4.setCell (xK W3.heap.size 1) (iV P)).alloc o) W4.heap.size 286 (Bv ⟨P,O,A,F,M⟩) from by
        have h:=AE.new (W4.setCell (xK W3.heap.size 1) (iV P)) 286 (Bv ⟨P,O,A,F,M⟩);rw [a8] at h
        rw [AB HO];exact h)
       clear a8;rw [AB HO] at n4 o9 o8;go_wp2;clear c0 c1 c2 c3 c4 p1 pf y1 y2 y3 y4 l8 l4
       go_loopw [19] (λt wj=>∃m:Nat,m<=256/\t= iV m/\Hid (AE wj W3.heap.size 136 (AY p P (Fg B ⟨P,O,A,F,M⟩ p L m)))/\Hid (AE wj W4.heap.size 286 (Bv ⟨P,O,A,F,M⟩))/\Hid (Bw W3 wj)) (λt _=>256-(intOf t).toNat)
       case atStart=>exact ⟨0,om,rfl,by rw [Ym _ _ _ _ b3.1];exact n4,o8,o9⟩
       case round=>
        obtain ⟨m,hm,rfl,c8,c9,g5⟩:=hrel;by_cases g6:m<256
        ·have d1:cE wr W4.heap.size 1 (uV O):=c9.cell rfl;have d2:cE wr W4.heap.size 2 (uV A):=c9.cell rfl;have d3:cE wr W4.heap.size 3 (uV F):=c9.cell rfl;obtain ⟨A0,O0,F0,M1,c6,b9,b4⟩:=AB k2;have m4:B.length<=500000:=o1 (AB I);obtain ⟨T,hT⟩:=xE (p*256+m);have e1:(p:Int)*256+(m:Int)=(T:Int):=om;have u0:(T:Int)<65536:=om;have e2:IntKind.u64.wrap (T:Int)=(T:Int):=by rw [yh];omega
         have i5:K2 ⟨P,O,A,F,M⟩ p m↔A<=(T:Int)/\(T:Int)-A<F:=by
          unfold K2;simp only;omega
         have k8:=AC i5;by_cases h1:A<=(T:Int)
         ·have e3:IntKind.u64.wrap ((T:Int)-A)=(T:Int)-A:=by rw [yh];omega
          by_cases h2:(T:Int)-A<F
          ·obtain ⟨X,hX⟩:=xE (O.toNat+(p*256+m-A.toNat));have e4:IntKind.u64.wrap (O+(T:Int))=O+(T:Int):=by rw [yh];omega
           have e5:O+(T:Int)-A=(X:Int):=om;have e6:IntKind.u64.wrap (X:Int)=(X:Int):=by rw [yh];omega
           have q3:X<B.length:=om;have s5:(X:Int)<(B.length:Int):=om;have n8:=(HV.below J k7)
           have d4:wr.cell? (xK b (off+X))=some (.int .u8 (B.getD X 0)):=by
            rw [(G.trans (g5.mono Z)).cell (p:=(xK b (off+X))) (by show b<_;omega)];exact n8 X q3
           obtain ⟨y,hy⟩:=xE (B.getD X 0);rw [<-hy] at d4;have i9:m<(Fg B ⟨P,O,A,F,M⟩ p L m).length:=by rw [EE];omega
           have d5:wr.cell? (xK W3.heap.size (2+m))=some (.int .u8 ((Fg B ⟨P,O,A,F,M⟩ p L m).getD m 0)):=c8.cell (Vl _ _ _ _ i9);have d6:=c8.frozen (2+m);have n1:=c8.set (2+m) (.int .u8 y);rw [Vm,hy,hX,iB (k8.2 ⟨h1,h2⟩) g6,<-hX,<-hy] at n1;have N1:=AC n1;have N2:=AC (c9.set_other (c:=W3.heap.size) om (2+m) (.int .u8 y));have N3:=AC (g5.setCell (p:=(xK W3.heap.size (2+m))) (zx _) (.int .u8 y));generalize (Fg B ⟨P,O,A,F,M⟩ p L m).getD m 0=z at d5;have s2:(0:Int)<=(X:Int):=om;have j2:(0:Int)<=(m:Int):=om;have k3:(m:Int)<256:=om;clear n1 n8 hy hX hT i5 A0 O0 F0 M1 c6 b9 b4 i9;go_wp2
           go_roundw
           case rel=>exact ⟨m+1,om,by go_num,N1,N2,N3⟩
           case measure=>simp [intOf];omega
          ·have g3:¬K2 ⟨P,O,A,F,M⟩ p m:=λh=>h2 (k8.1 h).2;have N1:=c8;rw [S3 g3] at N1;have j2:(0:Int)<=(m:Int):=om;have k3:(m:Int)<256:=om;clear hT i5 m4 A0 O0 F0 M1 c6 b9 b4 d1 g3;go_wp2
           go_roundw
           case rel=>exact ⟨m+1,om,by go_num,N1,c9,g5⟩
           case measure=>simp [intOf];omega
         ·have g3:¬K2 ⟨P,O,A,F,M⟩ p m:=λh=>h1 (k8.1 h).1;have N1:=c8;rw [S3 g3] at N1;have j2:(0:Int)<=(m:Int):=om;have k3:(m:Int)<256:=om;clear hT i5 m4 A0 O0 F0 M1 c6 b9 b4 d1 g3;go_wp2
          go_roundw
          case rel=>exact ⟨m+1,om,by go_num,N1,c9,g5⟩
          case measure=>simp [intOf];omega
        ·have l6:m=256:=om;subst l6;go_wp2
         go_roundw
         case rel=>
          refine ⟨j+1,P,Fg B ⟨P,O,A,F,M⟩ p L 256,om,by go_num,?_,AC ?_,c8,g5⟩
          ·rw [HS.2,Jq,AB o2,<-AB a6];simp
          ·rw [HS.2];exact Yo (AB b3) (AB o2)
         case measure=>simp [intOf];omega
      ·have l0:j=k:=om;subst l0;have a9:fs.take j=fs:=xx om;rw [a9] at b3 a6;have l5:=AC (J.trans ((G.trans (b7.mono Z)).mono a0));by_cases h1:1<c
       ·go_wp2;exact xh (v:= .tuple #[sN,uV 0,iV 4]) (by simp [results,results84,go_sem]) rfl ⟨.inr (.inr ⟨AB c7,AB d7,.inl ⟨⟨p,j8,by rw [<-AB i0,<-AB a6];exact h1⟩,rfl⟩⟩),AB l5⟩
       have d0:∀q,q<p+1->fs.countP (λs=>cov s q)<=1:=λq hq=>by
        rcases sj.1 hq with h|h
        ·exact AB HC q h
        ·rw [h,<-AB a6];omega
       have m1:=AC d0;clear d0;have E1:=Aw a7 b7;have a2:=G.trans (b7.mono Z);by_cases h2:c=1
       ·subst h2;obtain ⟨s,hs⟩:=Yp a6.symm;obtain ⟨o0,n6⟩:=b3.2.2 s hs;obtain ⟨PP,f3⟩:=xE (AY p C L);have m6:PP.length=258:=by rw [f3,Ac,b3.1]
        have f9:∀v∈PP,v.oneCell'=true:=by rw [f3];exact D8 _ _ _
        have E0:=i6;rw [<-f3] at E0;have l3:=Hg (B:=B) HC;have H:Bl B fs (p+1)=Bl B fs p++[⟨(p:Nat),C,L⟩]:=by rw [Hs,hs,o0,n6];rfl
        have f7:As (Bl B fs (p+1))=As (Bl B fs p)++PP:=by rw [H,K4,QD,f3]
        have V:(Bl B fs (p+1)).length=(Bl B fs p).length+1:=by rw [H,zm];rfl
        have b6:=AC (xi f7 V);obtain ⟨n,hn⟩:=xE ((Bl B fs p).length);obtain ⟨xs,l1⟩:=xE (As (Bl B fs p));rw [<-hn,<-l1] at E1;rw [<-hn] at l3;rw [<-hn,<-l1] at b6;obtain ⟨m3,f6,k9,p6⟩:=H4 E1 m6 f9 a2;clear hs o0 n6 f3 m6 f9 H f7 V hn l1 E1 a2 a7
        go_wp2_with (first|(refine te rfl 136 _ rfl W3.heap.size 0 (by rfl) PP _ E0.range underlying136 rfl (by rw [Ih,AB f6]) ?_)|(refine Dk rfl 75 136 _ rfl PP (by rfl) ip _ underlying75 b0.1 b0.2.1 (by rw [b0.2.2.1,AB f6]) (by rw [AB f6];omega) (by rw [AB f6];omega) ?_)|(at_builtin;refine wpList_append_lies _ (by rfl) _ _ 75 (by rfl) W2.heap.size 136 ip _ 258 272 underlying75 b0.1 b0.2.1 b0.2.2.1 b0.2.2.2 (by simp [Value.cells,Ac,AT]) dz u11 n xs (by rfl) (m3.alloc _) (xK W4.heap.size 0) 1 1 PP (by rfl) (by rw [AB f6]) (by have:=qj (cs:=PP.toArray) (t:=136) (fr:=(0,0)) (heap_alloc_new W4 _);simpa using this) (AB k9) om (by unfold maxLen;omega) om sO (W4.heap.size+1) sI ?_;intro g b8 w8 a4 R k5 q7))
        have f1:w8.ownsRow W2.heap.size 136 258 (sL g 0 (n+1) b8) (Bl B fs (p+1)).length (As (Bl B fs (p+1))):=by rw [b6.1,b6.2];exact a4
        have f2:Bw W2 w8:=(p6.alloc om _).grown R sO (by intro q h;have:=m3.lt q h;omega);have F1:=AC f1;have F2:=AC f2;clear a4 R k5 f1 f2
        go_roundw
        case rel=>exact ⟨p+1,om,by go_num,m1,F1,F2⟩
        case measure=>simp [intOf];omega
       ·have h0:c=0:=om;subst h0;have hs:=Vk a6.symm;have H:Bl B fs (p+1)=Bl B fs p:=by rw [Hs,hs];simp
        rw [<-H] at E1;have F1:=AC E1;have F2:=AC a2;clear hs H E1 a2 a7;go_wp2
        go_roundw
        case rel=>exact ⟨p+1,om,by go_num,m1,F1,F2⟩
        case measure=>simp [intOf];omega
    ·have h5:p=256:=om;subst h5;obtain ⟨W5,r4⟩:=xE wr;subst r4;have r8:W2.heap.size<=W5.heap.size:=G.size;have a1:=AC (J.trans (G.mono a0));have m9:Am W5 b off B:=HV.below a1 k7;have t7:64<=B.length:=om;obtain ⟨E,hE⟩:=xE (AO B 24 8);have m7:=BP HB 24 8 om;have o6:=AC (BW b (off+24) 8 (b2-24) B 24 W5 (AB HB) om (λj hj=>by rw [sd];exact m9 (24+j) om));rw [<-hE] at o6 m7;have r6:¬b2=24:=o1 I.1;have t8:(32:Int)<=(b2:Int):=o1 I.1;obtain ⟨p5,q5⟩:=m7;have HE:=AC hE;have f0:=Yu (B:=B) (fs:=fs) om b1;obtain ⟨g,gc,k1,s0,s4⟩:=a7.form f0;subst k1;obtain ⟨PS,j0⟩:=xE (Bl B fs 256);have j3:=MO B fs 256;have l3:=Hg (B:=B) HC;have f4:PS=Bl B (Bb B) 256:=by rw [j0,AB i0]
     rw [<-j0] at a7 j3 l3;rw [<-j0];have Y:=AC f4;have l9:=AC j3;have i8:=AC (show ∀p,p<256->(Bb B).countP (λs=>cov s p)<=1 from by rw [<-AB i0];exact AB HC);clear hE m9 f0 j0 f4 j3 q5 HC i0 b1
     go_wp2_with fail
     refine o6.mono ?_;rintro e w9 ⟨rfl,p0⟩;subst p0;by_cases t1:E%4=0
     case neg=>
      have f1:(E%4 !=0)=true:=sU t1;have T1:=AC t1;clear t1;go_wp2;exact xh (v:= .tuple #[sN,uV 0,iV 5]) (by simp [results,results84,go_sem]) rfl ⟨.inr (.inr ⟨AB c7,AB d7,.inr ⟨AB i8,.inl ⟨λh=>AB T1 (by rw [AB HE];exact h.1),rfl⟩⟩⟩),AB a1⟩
     have f1:(E%4 !=0)=false:=sU t1;have T1:=AC t1;clear t1;by_cases t2:E<65536
     case neg=>
      go_wp2;exact xh (v:= .tuple #[sN,uV 0,iV 5]) (by simp [results,results84,go_sem]) rfl ⟨.inr (.inr ⟨AB c7,AB d7,.inr ⟨AB i8,.inl ⟨λh=>by (have h9:=h.2.1;rw [<-AB HE] at h9;omega),rfl⟩⟩⟩),AB a1⟩
     obtain ⟨Q,hQ⟩:=xE (E/256);have y1:wrap64 (IntKind.u64.wrap (E.tdiv 256))=Q:=by rw [hQ,tj p5];exact QF _ om om
     have y2:wrap64 (E/256)=Q:=by rw [hQ];unfold wrap64;omega
     have y3:IntKind.i64.wrap (E/256)=Q:=by rw [hQ];exact Eu _ om om
     have HQ:=AC hQ;clear hQ;go_wp2
     go_loopw [22] (λi wr=>∃m:Nat,m<=PS.length/\i= iV m/\Hid (∀q∈PS.take m,¬(q.num=Q/\bits BinOp.and IntKind.i64 q.perm 1=1))/\Hid (wr.heap=w9.heap)/\Hid (Bw w1 wr)) (λi _=>PS.length-(intOf i).toNat)
     case atStart=>exact ⟨0,om,rfl,AC (λq hq=>by simp at hq),AC rfl,a1⟩
     case round=>
      obtain ⟨m,hm,rfl,j5,i2,i1⟩:=hrel;by_cases i9:m<PS.length
      ·obtain ⟨q,hq⟩:∃q,PS[m]? =some q:=⟨_,zz i9⟩;have D:∀a,wr.cell? a=w9.cell? a:=λa=>by unfold World.cell?;rw [AB i2]
       have c0:wr.cell? (xK g (m*258))=some (iV q.num):=by
        rw [D,a7.cellAt _ om];exact I9 PS m 0 q (AB l9) hq om _ rfl
       have c1:wr.cell? (xK g (m*258+1))=some (iV q.perm):=by
        rw [D,a7.cellAt _ om];exact I9 PS m 1 q (AB l9) hq om _ rfl
       have a9:PS.take (m+1)=PS.take m++[q]:=by rw [uw,hq];rfl
       have n7:=AC a9;have q0:=AC (zv hq);obtain ⟨n1,n2,n3⟩:=q;simp only at c0 c1;obtain ⟨X,hX⟩:=xE (bits BinOp.and IntKind.i64 n2 1);have s6:=hX.symm;have HX:=AC hX;have j2:(0:Int)<=(m:Int):=om;have k3:(m:Int)<(PS.length:Int):=om;clear D a9 hq hX;by_cases t3:n1=Q
       ·have g1:(n1==Q)=true:=sU t3;have T3:=AC t3;by_cases t4:X=1
        ·have g2:(X==1)=true:=sU t4;have T4:=AC t4
         have l7:=AC (show wr.ownsRow w1.heap.size 136 258 (sL g 0 PS.length gc) PS.length (As PS) from by
          refine EN ?_ a0;have h:=AB a7;unfold World.ownsRow at h ⊢
          rw [AB i2];exact h)
         clear t3 t4;go_wp2;refine xh (v:= .tuple #[sL g 0 PS.length gc,uV E,iV 0]) (by simp [results,results84,go_sem]) rfl ⟨.inr (.inr ⟨AB c7,AB d7,.inr ⟨AB i8,.inr ⟨?_,g,gc,?_,?_⟩⟩⟩),AB i1⟩
         ·rw [<-AB HE,<-AB Y];exact ⟨AB T1,t2,_,AB q0,by rw [<-AB HQ];exact AB T3,by rw [<-AB HX];exact AB T4⟩
         ·rw [<-AB HE,<-AB Y]
         ·rw [<-AB Y];exact AB l7
        ·have g2:(X==1)=false:=sU t4;have T4:=AC t4;clear t3 t4;go_wp2
         go_roundw
         case rel=>exact ⟨m+1,om,by go_num,AC (λq hq=>by
          rw [AB n7,vo] at hq;rcases hq with hq|hq
          ·exact AB j5 q hq
          ·have e:=qh.1 hq;subst e
           exact λh=>AB T4 (by rw [AB HX];exact h.2)),i2,i1⟩
         case measure=>simp [intOf];omega
       ·have g1:(n1==Q)=false:=sU t3;have T3:=AC t3;clear t3;go_wp2
        go_roundw
        case rel=>exact ⟨m+1,om,by go_num,AC (λq hq=>by
         rw [AB n7,vo] at hq;rcases hq with hq|hq
         ·exact AB j5 q hq
         ·have e:=qh.1 hq;subst e
          exact λh=>AB T3 h.1),i2,i1⟩
        case measure=>simp [intOf];omega
      ·have l6:m=PS.length:=om;subst l6;go_wp2
       exact xh (v:= .tuple #[sN,uV 0,iV 5]) (by simp [results,results84,go_sem]) rfl ⟨.inr (.inr ⟨AB c7,AB d7,.inr ⟨AB i8,.inl ⟨λh=>by
        obtain ⟨_,_,q,hq,h3,h4⟩:=h;rw [<-AB Y] at hq
        exact AB j5 q (by rw [uh];exact hq) ⟨by rw [h3,<-AB HE,<-AB HQ],h4⟩,rfl⟩⟩⟩),AB i1⟩
def lU:(prog.info? 3).map (λi=>(i.zero,i.size,i.bytes))=some (some (iV 0),1,8):=kf
def QM {ss:List ByteArray} {k:Nat} (h:k<ss.length):
  JA (Es (ss.drop (k+1))).reverse++[iV ((65024+(512-Bu (ss.drop k)):Nat):Int)]=JA (Es (ss.drop k)).reverse:=by
 rw [Kb h,Es,List.reverse_cons];simp [JA]
def dN (a:Option Addr) (b off j9:Nat) (ss:List ByteArray) (w:World) (hn:ss.length<=1000) (ha:0<ss.length->a=some (xK b off)) (i8:b<w.heap.size)
  (a9:∀i,i<ss.length->w.cell? (xK b (off+i))=some (.string (ss.getD i ByteArray.empty))) (d4:Cv ss=true):
  cT 85 #[.slice a ss.length j9] w λe w'=>∃g gc,e= .returned (.tuple #[sL g 0 2 gc,uV (65024+(Dc ss:Int)),iV 0])/\w'.ownsRow (w.heap.size+1) 136 258 (sL g 0 2 gc) 2 (ED (AS ss) 2)/\Bw w w':=by
 obtain ⟨i0,g7,g0,h0,g5⟩:=info_parts lU;have HC:=AC a9;have HA:=AC ha;have HO:=AC d4;have l9:=(LT d4).1;have HI:=AC (xi g7 (xi g0 (xi h0 g5)));clear a9 ha d4 g7 g0 h0 g5;go_enter func85,ntmps85;go_wp2
 go_loop [5] (λi=>∃k:Nat,k<=ss.length/\i= iV k) (λi=>ss.length-(intOf i).toNat)
 case atStart=>exact ⟨0,om,rfl⟩
 case round=>
  obtain ⟨k,hk,rfl⟩:=hrel;by_cases b1:k<ss.length
  ·have b7:=(AB HC) k b1;have e:=(AB HA) om;subst e;have d9:DZ (ss.getD k ByteArray.empty)=true:=(za.1 (LT (AB HO)).2) _ (by simp [List.getD,zz b1]);have hl:=UC HO b1;obtain ⟨s,g4⟩:=xE (ss.getD k ByteArray.empty);rw [<-g4] at b7 hl d9;have k2:=AC d9;clear g4 d9;go_wp2
   go_loop [6] (λi=>∃j:Nat,j<=s.size/\i= iV j) (λi=>s.size-(intOf i).toNat)
   case atStart=>exact ⟨0,om,rfl⟩
   case round=>
    obtain ⟨j,hj,rfl⟩:=hrel;by_cases h6:j<s.size
    ·have hb:((s[j].toNat:Int)==0)=false:=by have:=lT (AB k2) h6;simpa using this
     go_wp2
     go_round
     case rel=>exact ⟨j+1,om,by go_num⟩
     case measure=>simp [intOf];omega
    ·go_wp2
     go_round
     case rel=>exact ⟨k+1,om,by go_num⟩
     case measure=>simp [intOf];omega
  ·clear hk
   go_wp2_with (refine Bh rfl 277 rfl ML Vc ?_)
   go_loopw [9,10,11] (λh4 v i wr=>∃k:Nat,k<=ss.length/\i= iV ((k:Int)-1)/\h4= iV ((65024+(512-Bu (ss.drop k)):Nat):Int)/\AE wr w.heap.size 277 (AF (room (ss.drop k)))/\
     wr.ownsRow (w.heap.size+1) 3 1 v (ss.length-k) (JA (Es (ss.drop k)).reverse)/\Bw w wr/\w.heap.size+1<=wr.heap.size)
    (λ_ _ i _=>(intOf i+1).toNat)
   case atStart=>
    refine ⟨ss.length,zx _,rfl,?_,?_,?_,?_,?_⟩
    ·simp [Bu]
    ·rw [List.drop_length,room];exact AE.new _ _ _
    ·rw [List.drop_length,ya];exact uy _ _ _ _
    ·exact bA
    ·simp
   case round=>
    obtain ⟨k,hk,rfl,rfl,a8,c9,c0,k8⟩:=hrel;have f7:=AC a8;have d1:=AC c9;have d3:=AC c0;clear a8 c9 c0;rcases k with _|k
    ·have ht:Bu ss<=248:=by have:=DG (AB HO) 0;simpa using this
     obtain ⟨D,hD⟩:=xE (65024+(512-Bu (ss.drop 0)));rw [<-hD];rw [List.drop_zero] at hD;obtain ⟨V,hV⟩:=xE (D-8*(ss.length+2));obtain ⟨X,hX⟩:=xE (Dc ss);obtain ⟨Y,hY⟩:=xE (65024+X);have i2:65024+X=V/16*16:=by rw [hX,Dc,hV,hD];omega
     have q1:(D:Int)-8*((ss.length:Int)+2)=(V:Int):=om;have q2:(V:Int)/16*16=(Y:Int):=om;have q3:(Y:Int)-65024=(X:Int):=om;have i1:X+8*(ss.length+2)<=512:=om;have j6:(0:Int)<=(X:Int):=om;have l2:(V:Int)<=65536:=om;have j1:(0:Int)<=(D:Int):=om;have k1:(D:Int)<=65536:=om;have k5:(65024:Int)<=(Y:Int):=om;have k9:(Y:Int)<=65536:=om;have j8:(X:Int)<=512:=om;have HX:=AC hX;have HY:=AC hY;have c2:(room ss).length=512:=Db _ om;have b2:=AC c2;clear hD hV hX i2 hY c2
     go_wp2_with fail
     refine (bI w.heap.size 0 512 512 277 (room ss) X (ss.length:Int) wr (sU (AB f7)) om (by rw [AB b2];omega) (by rw [AB b2];omega) om).mono ?_;rintro e w3 ⟨rfl,T,a3⟩
     have b8:=d1.kept a3 (by
      cases hv:Value.ownBlock u10 with
      |none=>exact .inl rfl
      |some q=>right;intro h;have:=d1.lt q hv;simp at h;omega)
     have g2:=d3.trans (Aa a3 (zx _) om);have h5:w.heap.size+1<=w3.heap.size:=o1 a3.size;have A1:=AC T;have A2:=AC b8;have A3:=AC g2;clear T b8 g2 a3
     go_wp2_with fail
     go_loopw [13] (λi wr=>∃k:Nat,k<=ss.length/\i= iV k/\AE wr w.heap.size 277 (AF (splice (room ss) X (Cg ((Et ss).take (k+1)))))/\wr.ownsRow (w.heap.size+1) 3 1 u10 ss.length (JA (Es ss).reverse)/\Bw w wr/\w.heap.size+1<=wr.heap.size) (λi _=>ss.length-(intOf i).toNat)
     case atStart=>exact ⟨0,om,rfl,by have:=AB A1;simpa [Et,Cg] using this,by have:=AB A2;simpa using this,AB A3,h5⟩
     case round=>
      obtain ⟨k,hk,rfl,T,b0,b3,i3⟩:=hrel;by_cases b1:k<ss.length
      ·obtain ⟨g,cg,hf⟩:=b0.form om;obtain ⟨d8,l5,a6⟩:=hf;subst d8;obtain ⟨A,hA⟩:=xE ((Es ss).getD k 0);have g8:=Vp ss k b1
       have b7:wr.cell? (xK g (ss.length-1-k))=some (iV A):=by
        rw [b0.cellAt _ om,lS ss k b1,hA]
       rw [<-hA] at g8;obtain ⟨i4,l8⟩:=g8;obtain ⟨M,hM⟩:=xE (ss.length-1-k);rw [<-hM] at b7;obtain ⟨Z1,j2⟩:=xE (X+8);obtain ⟨Z,hZ⟩:=xE (X+8+8*k);have r2:(ss.length:Int)-1-(k:Int)=(M:Int):=om;have r3:(X:Int)+8=(Z1:Int):=om;have r4:(Z1:Int)+8*(k:Int)=(Z:Int):=om;have l7:(0:Int)<=(M:Int):=om;have l1:(M:Int)<(ss.length:Int):=om;have y1:=Eu (X:Int) j6 om;have y2:=Eu (Z1:Int) om om;have y3:=Eu (Z:Int) om om;have y4:=Eu (8*(k:Int)) om om;have y5:=Eu ((ss.length:Int)-1) om om;have y6:=Eu (M:Int) om om;have y7:IntKind.u64.wrap A=A:=by rw [yh];omega
       have HZ:=AC hZ;have h3:=AC hA;have h9:Z+8<=512:=om;have d7:g<wr.drew.heap.size:=a6;have f0:g≠w.heap.size:=om;have B1:=AC T;have B2:=AC b0;have B3:=AC b3
       have d0:(splice (room ss) X (Cg ((Et ss).take (k+1)))).length=512:=by
        rw [BJ _ _ _ (by rw [FO,yr,E6,AB b2];omega),AB b2]
       have f9:=AC d0;clear T b0 b3 hM j2 hZ hA d0
       go_wp2_with fail
       go_region_held3 (λw'=>w'.cell? (xK g M)=some (iV A)) (first|go_keep|(rw [LN b5 d7 f0];assumption))
        ((go_at_call 137;refine (bI w.heap.size 0 512 512 277 (splice (room ss) X (Cg ((Et ss).take (k+1)))) Z A wr.drew (by exact B1.heap rfl) h9 (by rw [AB f9];omega) (by rw [AB f9];omega) i4).mono ?_;rintro e w4 ⟨rfl,c4,b5⟩))
       have d2:wr.grownBy w4 (some w.heap.size):=⟨b5.os,b5.tape,b5.output,b5.size,b5.block⟩;have t1:=c4;rw [AB h3,AB HZ,iF ss X k b1 (AB b2) i1] at t1;have t2:=B2.kept d2 (.inr (by show some g≠some w.heap.size;simp;omega));have t3:=B3.trans (Aa d2 (zx _) om);have t4:w.heap.size+1<=w4.heap.size:=o1 d2.size;have T1:=AC t1;have T2:=AC t2;have T3:=AC t3;clear c4 b5 d2 t1 t2 t3 y1 y2 y3 y4 y5 y6 y7 r2 r3 r4;go_wp2
       go_roundw
       case rel=>first|exact ⟨k+1,om,by go_num,AB T1,AB T2,AB T3,t4⟩|((repeat apply Exists.intro);exact ⟨⟨k+1,om,by go_num,AB T1,AB T2,AB T3,t4⟩,rfl⟩)
       case measure=>simp [intOf];omega
      ·have e:k=ss.length:=om;subst e;rw [iG ss X (AB HO) (AB HX)] at T;have B1:=AC T;have B3:=AC b3;clear T b0 b3
       go_wp2_with fail
       have g3:=CE HO;have a7:=AC g3;clear g3;obtain ⟨ip,f8,c1,c8,c6⟩:=info_parts Jo;have HP:=AC (xi f8 (xi c1 (xi c8 c6)));clear f8 c1 c8 c6
       go_loopw [14,15] (λv i wr=>∃k:Nat,k<=2/\i= iV k/\wr.ownsRow (w.heap.size+1) 136 258 v k (ED (AS ss) k)/\AE wr w.heap.size 277 (AF (AS ss))/\Bw w wr/\w.heap.size+1<=wr.heap.size) (λ_ i _=>2-(intOf i).toNat)
       case atStart=>exact ⟨0,om,rfl,uy _ _ _ _,AB B1,AB B3,i3⟩
       case round=>
        obtain ⟨k,hk,rfl,b0,T,b3,j7⟩:=hrel;have C1:=AC b0;have C2:=AC T;have C3:=AC b3;clear b0 T b3;have j3:k=0\/k=1\/k=2:=om;rcases j3 with rfl|rfl|rfl
        ·rw [show ((0:Nat):Int)=(0:Int) from rfl];have i5:IntKind.i64.wrap 0=0:=dz;have i9:IntKind.i64.wrap 256=256:=dz
         go_wp2_with (first|(refine E8 rfl 136 _ rfl #[(0,iV 254),(1,iV 6)] rfl (.agg (AY 254 6 An).toArray) (NJ 254) ?_)|(refine Bh rfl 136 rfl (AY 0 0 An).toArray NQ ?_)|(refine Bo rfl 136 _ _ rfl wr.heap.size (AY 254 6 An) (by rfl) (by rfl) 136 (AY 0 0 An) (AE.new _ _ _) (by rw [Ih,Ac,AT]) (by rw [Ac,Ac]) (D8 _ _ _) ?_;intro w6 c5 J))
         have G:wr.grownBy w6 none:=⟨J.os,J.tape,J.output,by have:=J.size;simp at this;omega,λq hq _=>by rw [J.block q sO sO,Below.heap_alloc _ _ _ hq]⟩;have D2:=AC (C2.grown G sI)
         have D1:=AC (C1.kept G (by
          cases hv:Value.ownBlock u14 with
          |none=>exact .inl rfl
          |some q=>exact .inr sI))
         have D3:=AC (C3.grown G om (by intro q h;cases h));have h8:wr.heap.size<w6.heap.size:=c5.lt;clear J G;simp only [Act.put,zl,zi,zh]
         go_region_held3 (λ_=>True) (trivial)
          ((refine FQ (by rfl) _ _ 36 36 (by rfl) 5 underlying36 LU wr.heap.size 2 256 256 w.heap.size 0 512 512 (by rfl) (by rfl) (AY 254 6 An) 136 (by exact c5.heap rfl) (AF ((AS ss).take 256)) (by rw [AG];simp [AB a7]) (by exact ox D2) (Dd _) (by rw [AG,Ac,AT];simp [AB a7]) ?_;intro w7 c3 I))
         have a5:=AB c3;rw [Jp _ _ _ (by rw [AT];simp [AB a7])] at a5;have a2:w6.grownBy w7 (some wr.heap.size):=⟨I.os,I.tape,I.output,I.size,I.block⟩;have E2:=AC (D2.grown a2 sO)
         have E1:=AC (D1.kept a2 (by
          cases hv:Value.ownBlock u14 with
          |none=>exact .inl rfl
          |some q=>right;intro h;have:=C1.lt q hv;simp at h;omega))
         have E3:=AC (D3.trans (Aa a2 om om));have j5:wr.heap.size<w7.heap.size:=o1 a2.size;have O:(AY 254 6 ((AS ss).take 256)).length=258:=by rw [Ac];simp [AB a7]
         have F:=AC O;obtain ⟨PP,a4⟩:=xE (AY 254 6 ((AS ss).take 256));rw [<-a4] at a5;have N:=AC a4;have E0:=AC a5;have R:∀v∈PP,v.oneCell'=true:=by rw [a4];exact D8 _ _ _
         have b4:=AC R;clear a5 I a2 c3 O a4 R
         go_wp2_with (first|(refine te rfl 136 _ rfl wr.heap.size 0 (by rfl) PP _ E0.range underlying136 rfl (by rw [Ih,AB N,AB F]) ?_)|(refine Dk rfl 75 136 _ rfl PP (by rfl) ip _ underlying75 HP.1 HP.2.1 (by rw [HP.2.2.1,AB N,AB F]) (by rw [AB N,AB F];omega) (by rw [AB N,AB F];omega) ?_)|(at_builtin;refine wpList_append_lies _ (by rfl) _ _ 75 (by rfl) (w.heap.size+1) 136 ip _ 258 272 underlying75 HP.1 HP.2.1 HP.2.2.1 HP.2.2.2 (by simp [Value.cells,Ac,AT]) dz u14 _ _ (by rfl) (E1.alloc _) (xK w7.heap.size 0) 1 1 PP (by rfl) (by rw [AB N,AB F]) (by have:=qj (cs:=PP.toArray) (t:=136) (fr:=(0,0)) (heap_alloc_new w7 _);simpa using this) (AB b4) om (by unfold maxLen;omega) om sO (w7.heap.size+1) sI ?_;intro g c7 w8 a1 C d5 f5))
         have f1:=a1;rw [AB N] at f1;have f2:=(E2.alloc (.cells PP.toArray 136)).grown C (by intro h;have:=E1.lt w.heap.size h.symm;omega);have f3:=(E3.alloc om (.cells PP.toArray 136)).grown C sO (by intro q h;have:=E1.lt q h;omega);have f4:w.heap.size+1<=w8.heap.size:=by have:=C.size;simp at this;omega
         go_roundw
         case rel=>exact ⟨1,om,rfl,f1,f2,f3,f4⟩
         case measure=>simp [intOf]
        ·rw [show ((1:Nat):Int)=(1:Int) from rfl];have i5:IntKind.i64.wrap 0=0:=dz;have i9:IntKind.i64.wrap 256=256:=dz
         go_wp2_with (first|(refine E8 rfl 136 _ rfl #[(0,iV 255),(1,iV 6)] rfl (.agg (AY 255 6 An).toArray) (NJ 255) ?_)|(refine Bh rfl 136 rfl (AY 0 0 An).toArray NQ ?_)|(refine Bo rfl 136 _ _ rfl wr.heap.size (AY 255 6 An) (by rfl) (by rfl) 136 (AY 0 0 An) (AE.new _ _ _) (by rw [Ih,Ac,AT]) (by rw [Ac,Ac]) (D8 _ _ _) ?_;intro w6 c5 J))
         have G:wr.grownBy w6 none:=⟨J.os,J.tape,J.output,by have:=J.size;simp at this;omega,λq hq _=>by rw [J.block q sO sO,Below.heap_alloc _ _ _ hq]⟩;have D2:=AC (C2.grown G sI)
         have D1:=AC (C1.kept G (by
          cases hv:Value.ownBlock u14 with
          |none=>exact .inl rfl
          |some q=>exact .inr sI))
         have D3:=AC (C3.grown G om (by intro q h;cases h));have h8:wr.heap.size<w6.heap.size:=c5.lt;clear J G;simp only [Act.put,zl,zi,zh]
         go_region_held3 (λ_=>True) (trivial)
          ((refine FQ (by rfl) _ _ 36 36 (by rfl) 5 underlying36 LU wr.heap.size 2 256 256 w.heap.size 256 256 256 (by rfl) (by rfl) (AY 255 6 An) 136 (by exact c5.heap rfl) (AF ((AS ss).drop 256)) (by rw [AG];simp [AB a7]) (by exact oy D2) (Dd _) (by rw [AG,Ac,AT];simp [AB a7]) ?_;intro w7 c3 I))
         have a5:=AB c3;rw [Jp _ _ _ (by rw [AT];simp [AB a7])] at a5;have a2:w6.grownBy w7 (some wr.heap.size):=⟨I.os,I.tape,I.output,I.size,I.block⟩;have E2:=AC (D2.grown a2 sO)
         have E1:=AC (D1.kept a2 (by
          cases hv:Value.ownBlock u14 with
          |none=>exact .inl rfl
          |some q=>right;intro h;have:=C1.lt q hv;simp at h;omega))
         have E3:=AC (D3.trans (Aa a2 om om));have j5:wr.heap.size<w7.heap.size:=o1 a2.size;have O:(AY 255 6 ((AS ss).drop 256)).length=258:=by rw [Ac];simp [AB a7]
         have F:=AC O;obtain ⟨PP,a4⟩:=xE (AY 255 6 ((AS ss).drop 256));rw [<-a4] at a5;have N:=AC a4;have E0:=AC a5;have R:∀v∈PP,v.oneCell'=true:=by rw [a4];exact D8 _ _ _
         have b4:=AC R;clear a5 I a2 c3 O a4 R
         go_wp2_with (first|(refine te rfl 136 _ rfl wr.heap.size 0 (by rfl) PP _ E0.range underlying136 rfl (by rw [Ih,AB N,AB F]) ?_)|(refine Dk rfl 75 136 _ rfl PP (by rfl) ip _ underlying75 HP.1 HP.2.1 (by rw [HP.2.2.1,AB N,AB F]) (by rw [AB N,AB F];omega) (by rw [AB N,AB F];omega) ?_)|(at_builtin;refine wpList_append_lies _ (by rfl) _ _ 75 (by rfl) (w.heap.size+1) 136 ip _ 258 272 underlying75 HP.1 HP.2.1 HP.2.2.1 HP.2.2.2 (by simp [Value.cells,Ac,AT]) dz u14 _ _ (by rfl) (E1.alloc _) (xK w7.heap.size 0) 1 1 PP (by rfl) (by rw [AB N,AB F]) (by have:=qj (cs:=PP.toArray) (t:=136) (fr:=(0,0)) (heap_alloc_new w7 _);simpa using this) (AB b4) om (by unfold maxLen;omega) om sO (w7.heap.size+1) sI ?_;intro g c7 w8 a1 C d5 f5))
         have f1:=a1;rw [AB N] at f1;have f2:=(E2.alloc (.cells PP.toArray 136)).grown C (by intro h;have:=E1.lt w.heap.size h.symm;omega);have f3:=(E3.alloc om (.cells PP.toArray 136)).grown C sO (by intro q h;have:=E1.lt q h;omega);have f4:w.heap.size+1<=w8.heap.size:=by have:=C.size;simp at this;omega
         go_roundw
         case rel=>exact ⟨2,om,rfl,f1,f2,f3,f4⟩
         case measure=>simp [intOf]
        ·rw [show ((2:Nat):Int)=(2:Int) from rfl];obtain ⟨g,gc,f6,m3,l0⟩:=C1.form om;subst f6;have g9:(Y:Int)=65024+(Dc ss:Int):=by have:=AB HY;have h2:=AB HX;omega
         have j0:=AC g9;clear g9;go_wp2
         go_ret3
         exact ⟨g,gc,by rw [<-AB j0];rfl,AB C1,AB C3⟩
    ·have ht:Bu (ss.drop (k+1))<=248:=DG HO (k+1);have h7:Bu (ss.drop k)<=248:=DG HO k;have g6:=Pz (ss:=ss) (k:=k) om;have b9:=UC HO (k:=k) om;have e:=(AB HA) om;subst e
     have b7:wr.cell? (xK b (off+k))=some (.string (ss.getD k ByteArray.empty)):=by
      rw [d3.cell (p:=(xK b (off+k))) i8];exact (AB HC) k om
     obtain ⟨s,hs⟩:=xE (ss.getD k ByteArray.empty);rw [<-hs] at b7 g6 b9;have HS:=AC hs;obtain ⟨U,hU⟩:=xE (512-Bu (ss.drop k));obtain ⟨D,hD⟩:=xE (65024+(512-Bu (ss.drop (k+1))));obtain ⟨E,hE⟩:=xE (65024+(512-Bu (ss.drop k)));rw [<-hD];have eA:(D:Int)-(s.size:Int)-1=(E:Int):=om;have eB:(E:Int)-65024=(U:Int):=om;have HU:=AC hU;have HE:=AC hE;have k4:b<wr.drew.heap.size:=by show b<wr.heap.size;omega
     have i6:b≠w.heap.size:=om;have l3:U<512:=om;have k0:¬512=U:=om;have k7:U+s.size+1<=512:=om;have l6:264<=U:=om;have m0:k<8:=om;have e1:(((k+1:Nat):Int)-1)=(k:Int):=om;rw [e1];have k6:(k:Int)<(ss.length:Int):=om;have l4:(0:Int)<=(k:Int):=om;have k3:(0:Int)<=(U:Int):=om;have m2:(U:Int)<=512:=om;have m1:=Eu (U:Int) k3 om;have j1:(65024:Int)<=(D:Int):=om;have k1:(D:Int)<=65536:=om;have c2:(AF (room (ss.drop (k+1)))).length=512:=by rw [AG,Db _ om]
     have b2:=AC c2;clear hs g6 hD hU hE e1 ht h7 c2;go_wp2
     go_region_held3 (λw'=>w'.cell? (xK b (off+k))=some (.string s)) (first|go_keep|(rw [LN a6 k4 i6];assumption))
      ((refine IH (by rfl) _ _ 36 9 (by rfl) 5 underlying36 LU w.heap.size U (512-U) (512-U) s (by rfl) (by rfl) (AF (room (ss.drop (k+1)))) 277 (by exact f7.heap rfl) om (by rw [AB b2];omega) ?_;intro w2 g1 a6))
     have a3:wr.grownBy w2 (some w.heap.size):=⟨a6.os,a6.tape,a6.output,a6.size,a6.block⟩;have eR:splice (room (ss.drop (k+1))) U (Gn s)=room (ss.drop k):=by rw [Sy (ss:=ss) (k:=k) om,<-AB HS,<-AB HU]
     have R1:=AB g1;rw [Ji,CD,eR] at R1
     have b6:=d1.kept a3 (by
      cases hv:Value.ownBlock u10 with
      |none=>exact .inl rfl
      |some q=>right;intro h;have:=d1.lt q hv;simp at h;omega)
     have i7:w.heap.size+1<=w2.heap.size:=o1 a3.size;have h1:=d3.trans (Aa a3 (zx _) om);have H1:=AC R1;have H2:=AC b6;have H3:=AC h1;clear a6 a3 eR R1 b6 h1 g1
     go_wp2_with (at_builtin;refine wpList_append_lies _ (by rfl) _ _ 289 (by rfl) (w.heap.size+1) 3 i0 (iV 0) 1 8 underlying289 HI.1 HI.2.1 HI.2.2.1 HI.2.2.2 rfl dz u10 _ _ (by rfl) (H2.alloc _) (xK w2.heap.size 0) 1 1 [iV (E:Int)] (by rfl) (by rfl) (qj (cs:=#[iV (E:Int)]) (t:=3) (fr:=(0,0)) (heap_alloc_new w2 _)) (by simp [Value.oneCell']) om (by unfold maxLen;omega) om sO (w2.heap.size+1) sI ?_;intro g c7 w5 a0 H d6 j4)
     have q1:=(H1.alloc (.cells #[iV (E:Int)] 3)).grown H (by intro h;have:=H2.lt w.heap.size h.symm;omega);have q3:=(H3.alloc om (.cells #[iV (E:Int)] 3)).grown H sO (by intro k h;have:=H2.lt k h;omega);have q4:w.heap.size+1<=w5.heap.size:=by have:=H.size;simp at this;omega
     rw [AB HE,QM om] at a0;have q2:=AC a0;have Q1:=AC q1;have Q3:=AC q3;clear a0 q1 q3 H d6 H1 H2 H3;go_wp2
     go_roundw
     case rel=>exact ⟨k,om,rfl,by rw [<-AB HE],AB Q1,by rw [show ss.length-k=ss.length-(k+1)+1 from om];exact AB q2,AB Q3,q4⟩
     case measure=>simp [intOf]
def Au (pid par st su le pc:Int) (R:List Int) (pv:Value) (F:List Int):List Value:=[iV pid,iV par,iV st,iV su,iV le,uV pc,uV (R[0]?.getD 0),uV (R[1]?.getD 0),uV (R[2]?.getD 0),uV (R[3]?.getD 0),uV (R[4]?.getD 0),uV (R[5]?.getD 0),uV (R[6]?.getD 0),uV (R[7]?.getD 0),uV (R[8]?.getD 0),uV (R[9]?.getD 0),uV (R[10]?.getD 0),uV (R[11]?.getD 0),uV (R[12]?.getD 0),uV (R[13]?.getD 0),uV (R[14]?.getD 0),uV (R[15]?.getD 0),pv,iV (F[0]?.getD 0),iV (F[1]?.getD 0),iV (F[2]?.getD 0),iV (F[3]?.getD 0),iV (F[4]?.getD 0),iV (F[5]?.getD 0),iV (F[6]?.getD 0),iV (F[7]?.getD 0)]
structure AP where
 pid:Int
 par:Int
 st:Int
 su:Int
 le:Int
 pc:Int
 R:List Int
 PS:List Pg
 F:List Int
structure pU (p:AP):Prop where
 regs:p.R.length=16
 pages:∀q∈p.PS,0<=q.perm/\q.perm<=255/\q.bytes.length=256
 count:p.PS.length<=1000
structure pV (w:World) (gp o:Nat) (p:AP) (aa:Option Addr) (ga ca:Nat):Prop where
 row:w.rangeAt gp o (Au p.pid p.par p.st p.su p.le p.pc p.R (.slice aa p.PS.length ca) p.F)
 aa:0<p.PS.length->aa=some (xK ga 0)
 pages:Bs w ga p.PS
 fz:∀i,w.frozen? (xK ga i)=false
 fp:∀i,w.frozen? (xK gp i)=false
 apart:ga≠gp
 regs:p.R.length=16
def K8 (dir:Int) (name:ByteArray):Ax (xs.map erase) dir name=Ax xs dir name:=by
 unfold Ax;rw [List.find?_map,show BD dir name∘erase=BD dir name from rfl];cases xs.find? (BD dir name)<;>rfl
def IM:BO (xs.map erase) n=BO xs n:=by
 unfold BO;rw [List.findIdx?_map,show (λx:Ino=>x.id==n)∘erase=(λx:Ino=>x.id==n) from rfl]
def Hw:Ce (xs.map erase) n=Ce xs n:=by
 unfold Ce;rw [List.find?_map,show (λx:Ino=>x.id==n)∘erase=(λx:Ino=>x.id==n) from rfl];cases xs.find? (λx:Ino=>x.id==n)<;>rfl
def MU (xs:List Ino):∀(l:List ByteArray) (dir:Int),CI (xs.map erase) dir l=CI xs dir l
 |[],_=>rfl
 |[a],dir=>by simp only [CI,K8]
 |a::b::r,dir=>by
  simp only [CI,K8,Hw];split
  ·rfl
  ·split
   ·exact MU xs (b::r) _
   ·rfl
def FB (s:ByteArray):AH (xs.map erase) s=AH xs s:=by
 unfold AH;split
 ·rfl
 ·rfl
 ·exact MU xs _ 1
structure PK where
 lp:Int
 lf:Int
 lo:Int
 li:Int
 lb:Int
 last:Int
 xs:List Ino
 cs:List (List Int)
def RK.toP (k:RK) (cs:List (List Int)):PK:=⟨k.lp,k.lf,k.lo,k.li,k.lb,k.last,k.inos.map erase,cs⟩
def PK.add (p:PK) (dir:Int) (name:ByteArray) (is:Bool):PK:={p with xs:=p.xs++[Bq (p.last+1) dir name is],cs:=p.cs++[[]],last:=p.last+1}
def PK.mkdir (p:PK) (s:ByteArray):Int×PK:=
 if (AH p.xs s).e≠0 then ((AH p.xs s).e,p) else if (AH p.xs s).n≠0 then (10,p) else if p.li<=(p.xs.length:Int) then (12,p) else (0,p.add (AH p.xs s).dir (AH p.xs s).name true)
def PK.opened (p:PK) (s:ByteArray):PK×Int:=if (AH p.xs s).n=0 then (p.add (AH p.xs s).dir (AH p.xs s).name false,p.last+1) else (p,(AH p.xs s).n)
def PK.old (p:PK) (n:Int):List Int:=p.cs.getD (BO p.xs n).toNat []
def PK.fileCode (p:PK) (s:ByteArray) (B:List Int):Int:=
 if (AH p.xs s).e≠0 then (AH p.xs s).e
 else if (AH p.xs s).n=0/\p.li<=(p.xs.length:Int) then 12
 else if Ce (p.opened s).1.xs (p.opened s).2=true then 11
 else if 0<B.length/\p.lb<(AM (p.opened s).1.cs:Int)-(((p.opened s).1.old (p.opened s).2).length:Int)+((max B.length ((p.opened s).1.old (p.opened s).2).length:Nat):Int) then 12 else 0
def PK.fileOut (p:PK) (s:ByteArray) (B:List Int):PK:=
 if B.length=0 then (p.opened s).1 else {(p.opened s).1 with cs:=(p.opened s).1.cs.set (BO (p.opened s).1.xs (p.opened s).2).toNat (Fb ((p.opened s).1.old (p.opened s).2) B)}
def bR (k:RK) (cs:List (List Int)) (dir:Int) (name:ByteArray) (is:Bool):(k.add dir name is).toP (cs++[[]])=(k.toP cs).add dir name is:=by
 unfold RK.toP RK.add PK.add;simp only [xj,ub,List.map_nil];rfl
def dX (k:RK) (cs:List (List Int)) (s:ByteArray):((k.toP cs).mkdir s).1=(Cr k s).1/\((Cr k s).1=0->((k.toP cs).mkdir s).2=(Cr k s).2.toP (cs++[[]])):=by
 have hw:AH (k.toP cs).xs s=AH k.inos s:=FB k.inos s;have hl:(k.toP cs).xs.length=k.inos.length:=zc _;unfold PK.mkdir Cr;rw [hw,hl,show (k.toP cs).li=k.li from rfl];split
 ·rename_i h
  exact ⟨rfl,λh0=>absurd h0 h⟩
 split
 ·exact ⟨rfl,λh0=>absurd h0 (show ¬(10:Int)=0 by decide)⟩
 split
 ·exact ⟨rfl,λh0=>absurd h0 (show ¬(12:Int)=0 by decide)⟩
 ·exact ⟨rfl,λ_=>(bR k cs _ _ _).symm⟩
def QX (k:RK) (cs:List (List Int)) (s:ByteArray):(k.toP cs).opened s=((Ag k cs s).1.toP (Ag k cs s).2.1,(Ag k cs s).2.2):=by
 have hw:AH (k.toP cs).xs s=AH k.inos s:=FB k.inos s;unfold PK.opened Ag;rw [hw];split
 ·rw [<-bR];rfl
 ·rfl
def bS (k:RK) (cs:List (List Int)) (n:Int):(k.toP cs).old n=JY (k,cs,n):=by
 unfold PK.old JY;show cs.getD (BO (k.inos.map erase) n).toNat []=_;rw [IM]
def iK (k:RK) (cs:List (List Int)) (s:ByteArray) (B:List Int):(k.toP cs).fileCode s B=fileCode k cs s B:=by
 have hw:AH (k.toP cs).xs s=AH k.inos s:=FB k.inos s;have hl:(k.toP cs).xs.length=k.inos.length:=zc _;unfold PK.fileCode fileCode;rw [hw,hl,QX];simp only [bS];rw [show (k.toP cs).li=k.li from rfl,show (k.toP cs).lb=k.lb from rfl];rw [show ((Ag k cs s).1.toP (Ag k cs s).2.1).xs=(Ag k cs s).1.inos.map erase from rfl,Hw];rfl
def Vt (k k':RK) (cs:List (List Int)) (s:ByteArray) (B:List Int) (he:k'.inos.map erase=(Ag k cs s).1.inos.map erase) (hk:{k' with inos:=[]}={(Ag k cs s).1 with inos:=[]}):
  (k.toP cs).fileOut s B=k'.toP (F6 k cs s B):=by
 have hf:∀cc,k'.toP cc=(Ag k cs s).1.toP cc:=λcc=>by
  unfold RK.toP;rw [he];simp only [RK.mk.injEq] at hk;obtain ⟨h1,h2,h3,h4,h5,_,_,_,_,_,_,_,h6⟩:=hk;rw [h1,h2,h3,h4,h5,h6]
 rw [hf];unfold PK.fileOut F6;rw [QX];simp only [bS];split
 ·rfl
 ·rw [show ((Ag k cs s).1.toP (Ag k cs s).2.1).xs=(Ag k cs s).1.inos.map erase from rfl,IM];rfl
end Go.Proofs.YtpcjkidgohpeoaaGreatDoor
