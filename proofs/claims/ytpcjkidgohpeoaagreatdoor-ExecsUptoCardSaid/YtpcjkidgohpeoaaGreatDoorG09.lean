import Derived.Test.YtpcjkidgohpeoaaGreatDoorG05
import Derived.Great.BuildSlice
import Derived.Test.YtpcjkidgohpeoaaGreatDoorG08
set_option maxRecDepth 100000
set_option maxHeartbeats 4000000
set_option linter.all false
namespace Go.Proofs.YtpcjkidgohpeoaaGreatDoor
open RowKit Proofs.Tryz
variable {k:RK} {s:Seg} {p i n g j fuel d e:Nat} {B L:List Int} {ss fs:List Seg} {P:Program} {ops:Array Oper} {rest:List Oper} {op o oi:Oper} {a A:Act} {w W:World} {Q:Exit->Act->World->Prop} {b:Bool} {t ty t2:TypeId} {vs:List Value} {perm:Int} {K:Act->World->Prop} {E:Prop} {S:World->Prop} {md:Region.Mode} {v:Value} {listed:Array Bool} {x y:Operand} {xs:List Ino} (ad:Addr) (vx vy:Value)
def VU (base kb g C:Nat) (k:RK) (s:ByteArray) (bv:Value) (w:World) (h:EB w base kb g C k) (F:kb<base) (D:base<=w.heap.size) (hn:k.inos.length<=100000) (h0:0<=k.last) (h1:k.last<=1000000) (hs:s.size<=maxLen):
  cT 41 #[qP kb 0,.string s,.bool true,bv] w λe w'=>e= .returned (iV (Cr k s).1)/\∃g' cap',EB w' base kb g' cap' (Cr k s).2/\Ao w w' kb g/\(g'=g\/w.heap.size<=g'):=by
 have HM:=AC (Tv base kb g C k s w h F D hn h0 h1 hs);clear h hs;go_enter func41,ntmps41
 go_wp2_with fail
 refine HM.mono ?_;rintro e w1 ⟨rfl,hr⟩;have HR:=AC hr;clear hr;go_wp2;go_ret;exact ⟨rfl,AB HR⟩
def Ia.add (h:Ia k) (dir:Int) (name:ByteArray) (is:Bool):Ia (k.add dir name is):=by
 obtain ⟨h1,⟨x,hx,he⟩,h2⟩:=h;refine ⟨λy hy=> ?_,⟨x,by simp [RK.add,hx],he⟩,by show 1<=k.last+1;omega⟩;have C:y∈k.inos++[Bq (k.last+1) dir name is]:=hy;rcases vo.1 C with h|h
 ·have:=h1 y h;show y.id<=k.last+1;omega
 ·obtain rfl:=qh.1 h;exact si _
def Ia.mkdir (h:Ia k) (s:ByteArray):Ia (Cr k s).2:=by
 unfold Cr;split
 ·exact h
 split
 ·exact h
 split
 ·exact h
 ·exact h.add _ _ _
def Ia.opened {k1:RK} {cs C:List (List Int)} {s:ByteArray} {n1:Int} (h:Ia k) (ho:Ag k cs s=(k1,C,n1)):Ia k1:=by
 unfold Ag at ho;split at ho
 ·simp only [qx] at ho;obtain ⟨rfl,_,_⟩:=ho;exact h.add _ _ _
 ·simp only [qx] at ho;obtain ⟨rfl,_,_⟩:=ho;exact h
def Ia.same {k':RK} (h:Ia k) (he:k'.inos.map erase=k.inos.map erase) (hl:k'.last=k.last):Ia k':=by
 have F:∀(a b:List Ino),a.map erase=b.map erase->a.map (·.id)=b.map (·.id):=λa b e=>by
  have:=congrArg (List.map (λx:Ino=>x.id)) e;rw [rx,rx] at this;exact this
 have hm:=F _ _ he;obtain ⟨h1,⟨x,hx,D⟩,h2⟩:=h;refine ⟨λy hy=> ?_,?_,om⟩
 ·have:y.id∈k.inos.map (·.id):=by rw [<-hm];exact yt.2 ⟨y,hy,rfl⟩
  obtain ⟨z,hz,C⟩:=yt.1 this;have:=h1 z hz;omega
 ·have:x.id∈k'.inos.map (·.id):=by rw [hm];exact yt.2 ⟨x,hx,rfl⟩
  obtain ⟨z,hz,C⟩:=yt.1 this;exact ⟨z,hz,by rw [C,D]⟩
def cov (s:Seg) (p:Nat):Bool:=decide (s.first<=(p:Int)/\(p:Int)<=s.last)
def Fq:cov s p=true↔s.first<=(p:Int)/\(p:Int)<=s.last:=by simp [cov]
def dH:cov s p=false↔¬(s.first<=(p:Int)/\(p:Int)<=s.last):=by simp [cov]
def Ff (h:Ew B s):s.first=((s.addr.toNat/256:Nat):Int)/\s.last=((s.addr.toNat/256+s.count:Nat):Int)-1/\s.addr.toNat/256+s.count<=254/\1<=s.count:=by
 have hc:=Ig h;obtain ⟨a0,o0,i0,m1,F,C,D⟩:=h;unfold Seg.count Seg.last Seg.first at*;omega
def Jn {B:List Int} {ss:List Seg} (hf:∀s∈ss,Ew B s) (C:∀i,i+1<ss.length->¬NH ss i):∀j i,i<j->j<ss.length->(ss.getD i EW).last<(ss.getD j EW).first
 |0,i,h,_=>om
 |j+1,i,h,hj=>by
  have h1:(ss.getD j EW).last<(ss.getD (j+1) EW).first:=by have:=C j hj;unfold NH at this;omega
  rcases sj.1 h with h2|h2
  ·have h3:=Jn hf C j i h2 om;have hm:ss.getD j EW∈ss:=by rw [List.getD,zz om];exact rp _
   have h4:=Ff (hf _ hm);omega
  ·rw [h2];exact h1
def JZ (h:∀j i,i<j->j<ss.length->(ss.getD i EW).last<(ss.getD j EW).first):ss.Pairwise (λs t=>s.last<t.first):=by
 rw [vd];intro i j hi hj C;have:=h j i C hj;simpa [List.getD,zz hi,zz hj] using this
def LW {α β:Type} {l:List α} {f g:α->List β} (h:∀a∈l,f a=g a):l.flatMap f=l.flatMap g:=by
 induction l with
 |nil=>rfl
 |cons a r ih=>rw [vi,vi,h a ym,ih (λx hx=>h x (ut _ hx))]
def iA {α β:Type} (l:List α) (f:α->β):(l.flatMap λa=>[f a])=l.map f:=by
 induction l with
 |nil=>rfl
 |cons a r ih=>rw [vi,ih];rfl
def OC (B:List Int):∀(ss:List Seg) (lo:Nat),(∀s∈ss,Ew B s)->ss.Pairwise (λs t=>s.last<t.first)->(∀s∈ss,(lo:Int)<=s.first)->lo<=256->
  (List.range' lo (256-lo)).flatMap (λp=>(ss.filter (λs=>cov s p)).map (λs=>(⟨(p:Nat),s.perm,Cj B s p⟩:Pg)))=BV B ss
 |[],lo,_,_,_,_=>by simp [BV]
 |s::r,lo,hf,hp,hlo,h256=>by
  obtain ⟨e1,e2,e3,e4⟩:=Ff (hf s ym);have F:=hlo s ym;rw [se] at hp;have ih:=OC B r (s.addr.toNat/256+s.count) (λt ht=>hf t (ut _ ht)) hp.2 (λt ht=>o1 (hp.1 t ht)) om;have C:BV B (s::r)=EC B s s.count++BV B r:=by simp [BV]
  unfold EC at C;generalize s.addr.toNat/256=f at*;generalize s.count=n at*
  have G:List.range' lo (256-lo)=List.range' lo (f-lo)++(List.range' f n++List.range' (f+n) (256-(f+n))):=by
   have a:=List.range'_append_1 (s:=f) (m:=n) (n:=256-(f+n));have b:=List.range'_append_1 (s:=lo) (m:=f-lo) (n:=n+(256-(f+n)));rw [show lo+(f-lo)=f from om] at b;rw [a,b];congr 1;omega
  rw [G,ur,ur,C]
  have p1:(List.range' lo (f-lo)).flatMap (λp=>((s::r).filter (λs=>cov s p)).map (λs=>(⟨(p:Nat),s.perm,Cj B s p⟩:Pg)))=[]:=by
   rw [List.flatMap_eq_nil_iff];intro p D;rw [List.mem_range'_1] at D;rw [List.map_eq_nil_iff,tp];intro t ht;rw [Fq];rcases vp.1 ht with rfl|ht
   ·omega
   ·have:=hp.1 t ht;omega
  have p2:(List.range' f n).flatMap (λp=>((s::r).filter (λs=>cov s p)).map (λs=>(⟨(p:Nat),s.perm,Cj B s p⟩:Pg)))=(List.range n).map λi=>⟨(f+i:Nat),s.perm,Cj B s (f+i)⟩:=by
   rw [List.range'_eq_map_range,List.flatMap_map]
   have:∀i∈List.range n,(((s::r).filter (λs=>cov s (f+i))).map (λs=>(⟨((f+i:Nat):Int),s.perm,Cj B s (f+i)⟩:Pg)))=[⟨((f+i:Nat):Int),s.perm,Cj B s (f+i)⟩]:=by
    intro i hi;rw [zf] at hi;have c1:cov s (f+i)=true:=by rw [Fq];omega
    have c2:r.filter (λs=>cov s (f+i))=[]:=by
     rw [tp];intro t ht;rw [Fq];have:=hp.1 t ht;omega
    rw [List.filter_cons,vu c1,c2];rfl
   rw [LW this,iA]
  have p3:(List.range' (f+n) (256-(f+n))).flatMap (λp=>((s::r).filter (λs=>cov s p)).map (λs=>(⟨(p:Nat),s.perm,Cj B s p⟩:Pg)))=BV B r:=by
   rw [<-ih];refine LW ?_;intro p D;rw [List.mem_range'_1] at D;have c1:cov s p=false:=by rw [dH];omega
   rw [List.filter_cons,vz (by rw [c1];simp)]
  rw [p1,p2,p3,xt]
def nV (hf:∀s∈ss,Ew B s) (hs:Yi ss) (hi:i+1<ss.length) (ho:NH ss i):∃p,p<256/\1<ss.countP (λs=>cov s p):=by
 have m0:ss[i]? =some (ss.getD i EW):=by rw [List.getD,zz om];rfl
 have m1:ss[i+1]? =some (ss.getD (i+1) EW):=by rw [List.getD,zz hi];rfl
 have f0:=Ff (hf _ (zv m0));have f1:=Ff (hf _ (zv m1));have h2:=hs i (i+1) om hi;have h3:(ss.getD i EW).first<=(ss.getD (i+1) EW).first:=by unfold Seg.first;omega
 unfold NH at ho;generalize ss.getD i EW=a at*;generalize ss.getD (i+1) EW=b at*;have c0:cov a (b.addr.toNat/256)=true:=by rw [Fq];omega
 have c1:cov b (b.addr.toNat/256)=true:=by rw [Fq];omega
 refine ⟨b.addr.toNat/256,om,?_⟩
 have e:ss=ss.take i++(a::b::ss.drop (i+2)):=by
  have h4:ss.drop i=a::ss.drop (i+1):=by rw [un om];congr 1;rw [zz om] at m0;exact zr m0
  have h5:ss.drop (i+1)=b::ss.drop (i+2):=by rw [un hi];congr 1;rw [zz hi] at m1;exact zr m1
  rw [<-h5,<-h4,uq]
 rw [e,List.countP_append,List.countP_cons,List.countP_cons,vu c0,vu c1];omega
def P9 {B:List Int}:∀{ss:List Seg},(∀s∈ss,Ew B s)->ss.Pairwise (λs t=>s.last<t.first)->∀p,ss.countP (λs=>cov s p)<=1
 |[],_,_,p=>sI
 |s::r,hf,hp,p=>by
  rw [se] at hp;have ih:=P9 (λt ht=>hf t (ut _ ht)) hp.2 p;rw [List.countP_cons];by_cases c:cov s p=true
  ·have h0:r.countP (λs=>cov s p)=0:=by
    rw [List.countP_eq_zero];intro t ht;rw [Fq] at c ⊢;have:=hp.1 t ht;omega
   rw [h0];split<;>omega
  ·rw [vz c];omega
def bL (P:Int) (h1:1<=P) (h7:P<=7):bits BinOp.and IntKind.u8 P 1≠0↔bits BinOp.and IntKind.i64 P 1=1:=by
 have h:P=1\/P=2\/P=3\/P=4\/P=5\/P=6\/P=7:=om;rcases h with rfl|rfl|rfl|rfl|rfl|rfl|rfl<;>decide
def QC {q:Pg}:q∈BV B ss↔∃s∈ss,∃i,i<s.count/\q=⟨((s.addr.toNat/256+i:Nat):Int),s.perm,Cj B s (s.addr.toNat/256+i)⟩:=by
 unfold BV EC;constructor
 ·intro h;obtain ⟨s,hs,h⟩:=sy.1 h;obtain ⟨i,hi,rfl⟩:=yt.1 h;exact ⟨s,hs,i,zf.1 hi,rfl⟩
 ·rintro ⟨s,hs,i,hi,rfl⟩;exact sy.2 ⟨s,hs,yt.2 ⟨i,zf.2 hi,rfl⟩⟩
def Yl (hf:∀s∈ss,Ew B s) (hp:∀s∈ss,1<=s.perm/\s.perm<=7) (E:Int) (h0:0<=E):
  Su E ss↔E%4=0/\E<65536/\∃q∈BV B ss,q.num=E/256/\bits BinOp.and IntKind.i64 q.perm 1=1:=by
 constructor
 ·rintro ⟨h1,h2,i,hi,h3,h4,h5⟩;have hm:ss.getD i EW∈ss:=by rw [List.getD,zz hi];exact rp _
  generalize ss.getD i EW=s at*;obtain ⟨e1,e2,e3,e4⟩:=Ff (hf s hm);refine ⟨h1,om,_,QC.2 ⟨s,hm,(E/256).toNat-s.addr.toNat/256,om,rfl⟩,?_,(bL _ (hp s hm).1 (hp s hm).2).1 h3⟩;show ((s.addr.toNat/256+((E/256).toNat-s.addr.toNat/256):Nat):Int)=E/256;omega
 ·rintro ⟨h1,h2,q,hq,h3,h4⟩;obtain ⟨s,hs,i,hi,rfl⟩:=QC.1 hq;obtain ⟨e1,e2,e3,e4⟩:=Ff (hf s hs);simp only at h3 h4;obtain ⟨j,hj,rfl⟩:=sk.1 hs;refine ⟨h1,om,j,hj,?_⟩;have e:ss.getD j EW=ss[j]:=by rw [List.getD,zz hj];rfl
  rw [e];exact ⟨(bL _ (hp _ hs).1 (hp _ hs).2).2 h4,om,om⟩
def Sz (h:∀i,i<n->GW B (64+56*i)) (hp:ss.Perm (BU B n)):∀s∈ss,1<=s.perm/\s.perm<=7:=by
 intro s hs;have:=hp.mem_iff.1 hs;obtain ⟨i,hi,rfl⟩:=yt.1 this;have hk:=h i (sU hi);exact ⟨hk.2.1.1,hk.2.1.2.1⟩
def E8 (F:op.guard=none) (ty:TypeId) (parts:Array (Nat×Operand)) (ho:op.op= .build ty parts)
  (C:Array (Nat×Value)) (hv:(parts.map λ(i,x)=>(i,a.eval x))=C) (v:Value) (D:∀w,(Instr.build ty C).run P w= .ok v w)
  (h:wpList P ops Q rest (a.put op.dst v) w):wpList P ops Q (op::rest) a w:=
 wpList_plain F λ_ hK=>by
  unfold Oper.wp execOp;simp only [ho];rw [hv];simp [D,Result.andThen];exact hK _ _ h
def Dk (C:op.guard=none) (t e:TypeId) (x:Operand) (ho:op.op= .buildSlice t 1 #[(0,x)])
  (cs:List Value) (hx:a.eval x= .agg cs.toArray) (ie:TypeInfo) (z:Value) (hu:P.underlying t=some (.slice e)) (D:P.info? e=some ie) (hz:ie.zero=some z) (hs:ie.size=cs.length) (h0:0<cs.length) (F:cs.length<=2^24)
  (h:wpList P ops Q rest (a.put op.dst (sL w.heap.size 0 1 1)) (w.alloc (.cells cs.toArray e))):wpList P ops Q (op::rest) a w:=by
 refine wpList_buildSlice C t e 1 #[(0,x)] ho cs.toArray ie z hu D hz (by rw [hs];omega) (by rw [hs];omega) ?_ h;have:=Great.fill_whole (s:=ie.size) (by rw [hs];exact h0) [.agg cs.toArray] ((Array.range (1*ie.size)).map (z.cells[· %z.cells.size]!)) (by simp [Value.cells,hs]) sI;simpa [hx,Value.cells] using this
def AE.range {b:Nat} (h:AE W b t vs):W.rangeAt b 0 vs:=λj v hv=>by rw [zq];exact h.cell hv
def UF (h:AE W g t vs) (cs:List Value):AE (W.setRow g cs.toArray) g t cs:=by
 unfold AE at h ⊢;exact setRow_heap W g _ _ t _ h
def AY (num perm:Int) (bytes:List Int):List Value:= iV num:: iV perm::AF bytes
def Ac (a b:Int) (L:List Int):(AY a b L).length=L.length+2:=by simp [AY,AG]
def NJ (n:Int) (w:World):(Instr.build 136 #[(0,iV n),(1,iV 6)]).run prog w= .ok (.agg (AY n 6 An).toArray) w:=kf
def NQ (C:Value) (w:World):(Instr.alloc 136 true C).run prog w= .ok (qP w.heap.size 0) (w.alloc (.cells (AY 0 0 An).toArray 136)):=kf
def Jo:(prog.info? 136).map (λi=>(i.zero,i.size,i.bytes))=some (some (.agg (AY 0 0 An).toArray),258,272):=kf
def Ih:(prog.info? 136).map (·.size)=some 258:=kf
def D8 (a b:Int) (L:List Int):∀v∈AY a b L,v.oneCell'=true:=by
 intro v hv;simp only [AY,vp] at hv;rcases hv with rfl|rfl|hv
 ·rfl
 ·rfl
 ·obtain ⟨x,_,rfl⟩:=yt.1 hv;rfl
def Jp (n:Int) (Z xs:List Int) (h:Z.length=xs.length):splice (AY n 6 Z) 2 (AF xs)=AY n 6 xs:=by
 unfold splice AY;have e:(AF Z).drop (AF xs).length=[]:=xw (by rw [AG,AG];omega);simp only [List.take_succ_cons,List.take_zero,Nat.add_comm 2,List.drop_succ_cons,e,xr];rfl
def ED (R:List Int):Nat->List Value
 |0=>[]
 |1=>AY 254 6 (R.take 256)
 |_=>AY 254 6 (R.take 256)++AY 255 6 (R.drop 256)
def dI (cs:Array Value):w.grownBy (w.setRow g cs) (some g):=
 ⟨rfl,rfl,rfl,by simp [World.setRow],λk hk C=>setRow_other w g k cs (λe=>C (by simp [e]))⟩
def Bo (F:o.guard=none) (ty:TypeId) (x y:Operand) (ho:o.op= .store ty x y)
  (g:Nat) (cs:List Value) (hx:a.eval x= qP g 0) (hy:a.eval y= .agg cs.toArray)
  (t:TypeId) (C:List Value) (hg:AE w g t C) (hi:(P.info? ty).map (·.size)=some cs.length) (D:C.length=cs.length) (h1:∀v∈cs,v.oneCell'=true)
  (h:∀w',Hid (AE w' g t cs)->w.grownBy w' (some g)->wpList P ops Q rest (a.put o.dst undef) w'):wpList P ops Q (o::rest) a w:=by
 refine wpList_store_row F ty x y ho g cs.toArray hx hy t C.toArray hg (sU hi) (sU D) (all_oneCell_toArray h1) ?_;exact h _ (UF hg cs) (dI _)
abbrev K2 (s:Seg) (p t:Nat):Prop:=s.addr.toNat<=p*256+t/\p*256+t-s.addr.toNat<s.inFile.toNat
def Fg (B:List Int) (s:Seg) (p:Nat) (L:List Int) (j:Nat):List Int:=
 (List.range 256).map λt=>if t<j/\K2 s p t then B.getD (s.offs.toNat+(p*256+t-s.addr.toNat)) 0 else L.getD t 0
def EE (B:List Int) (s:Seg) (p:Nat) (L:List Int) (j:Nat):(Fg B s p L j).length=256:=by simp [Fg]
def Ym (B:List Int) (s:Seg) (p:Nat) (L:List Int) (h:L.length=256):Fg B s p L 0=L:=by
 apply ru;intro j;by_cases hj:j<256
 ·rw [Fg,ze,xo hj];simp [List.getD,zz (show j<L.length by omega)]
 ·rw [yw (by rw [EE];omega),yw om]
def Yn (B:List Int) (s:Seg) (p:Nat):Fg B s p An 256=Cj B s p:=by
 apply ru;intro j;by_cases hj:j<256
 ·rw [Fg,Cj,ze,ze,xo hj];have hz:An.getD j 0=0:=by rw [List.getD,N9,vu hj];rfl
  simp only [Option.map_some];rw [hz];unfold I5 K2;by_cases h:s.addr.toNat<=p*256+j/\p*256+j-s.addr.toNat<s.inFile.toNat
  ·rw [vu ⟨hj,h⟩,vu h]
  ·rw [vz (λx=>h x.2),vz h]
 ·rw [yw (by rw [EE];omega),yw (by rw [He];omega)]
def iB (h:K2 s p j) (hj:j<256):(Fg B s p L j).set j (B.getD (s.offs.toNat+(p*256+j-s.addr.toNat)) 0)=Fg B s p L (j+1):=by
 apply ru;intro t;rw [yv,EE];by_cases ht:t<256
 ·by_cases e:j=t
  ·subst e;rw [vu rfl,vu hj,Fg,ze,xo hj,Option.map_some,vu ⟨om,h⟩]
  ·rw [vz e,Fg,Fg,ze,ze,xo ht,Option.map_some,Option.map_some];congr 1;by_cases h2:t<j/\K2 s p t
   ·rw [vu h2,vu ⟨om,h2.2⟩]
   ·rw [vz h2,vz (λx=>h2 ⟨om,x.2⟩)]
 ·rw [vz om,yw (by rw [EE];omega),yw (by rw [EE];omega)]
def S3 (h:¬K2 s p j):Fg B s p L j=Fg B s p L (j+1):=by
 unfold Fg;refine qv ?_;intro t _;by_cases h2:t<j/\K2 s p t
 ·rw [vu h2,vu ⟨om,h2.2⟩]
 ·rw [vz h2,vz];rintro ⟨x,y⟩;rcases sj.1 x with x|x
  ·exact h2 ⟨x,y⟩
  ·subst x;exact h y
def Bl (B:List Int) (ss:List Seg) (n:Nat):List Pg:=(List.range n).flatMap λp=>(ss.filter (λs=>cov s p)).map (λs=>(⟨(p:Nat),s.perm,Cj B s p⟩:Pg))
def As (PS:List Pg):List Value:=PS.flatMap λp=>AY p.num p.perm p.bytes
def Hs (B:List Int) (ss:List Seg) (n:Nat):Bl B ss (n+1)=Bl B ss n++(ss.filter (λs=>cov s n)).map (λs=>(⟨(n:Nat),s.perm,Cj B s n⟩:Pg)):=by
 unfold Bl;rw [qf,ur];simp
def MO (B:List Int) (ss:List Seg) (n:Nat):∀q∈Bl B ss n,q.bytes.length=256:=by
 intro q hq;obtain ⟨p,_,hq⟩:=sy.1 hq;obtain ⟨s,_,rfl⟩:=yt.1 hq;exact He _ _ _
def K4 (a b:List Pg):As (a++b)=As a++As b:=by simp [As]
def QD (q:Pg):As [q]=AY q.num q.perm q.bytes:=by simp [As]
def I8 (B:List Int) (ss:List Seg) (p:Nat) (perm:Int) (L:List Int):Prop:=
 L.length=256/\(ss.filter (λs=>cov s p)=[]->perm=0/\L=An)/\(∀s,ss.filter (λs=>cov s p)=[s]->perm=s.perm/\L=Cj B s p)
def Vj (B:List Int) (p:Nat):I8 B [] p 0 An:=⟨AT,λ_=>⟨rfl,rfl⟩,λs h=>by simp at h⟩
def OD (h:I8 B ss p perm L) (hc:cov s p=false):I8 B (ss++[s]) p perm L:=by
 have e:(ss++[s]).filter (λs=>cov s p)=ss.filter (λs=>cov s p):=by simp [List.filter_append,hc]
 unfold I8;rw [e];exact h
def Yo (h:I8 B ss p perm L) (hc:cov s p=true):I8 B (ss++[s]) p s.perm (Fg B s p L 256):=by
 have e:(ss++[s]).filter (λs=>cov s p)=ss.filter (λs=>cov s p)++[s]:=by simp [List.filter_append,hc]
 refine ⟨EE _ _ _ _ _,λh2=>by rw [e] at h2;simp at h2,λt ht=> ?_⟩;rw [e] at ht
 have e2:ss.filter (λs=>cov s p)=[]:=by
  cases hx:ss.filter (λs=>cov s p) with
  |nil=>rfl
  |cons a r=>rw [hx] at ht;simp at ht
 rw [e2] at ht;have:s=t:=sU ht;subst this;rw [(h.2.1 e2).2];exact ⟨rfl,Yn _ _ _⟩
def Jq (ss:List Seg) (s:Seg) (p:Nat):(ss++[s]).countP (λs=>cov s p)=ss.countP (λs=>cov s p)+(if cov s p=true then 1 else 0):=by simp [List.countP_append,List.countP_cons]
def Vk (h:ss.countP (λs=>cov s p)=0):ss.filter (λs=>cov s p)=[]:=by
 rw [qr] at h;exact uz h
def Yp (h:ss.countP (λs=>cov s p)=1):∃s,ss.filter (λs=>cov s p)=[s]:=by
 rw [qr] at h;exact List.length_eq_one_iff.1 h
def Yq (hp:ss.Perm fs) (hf:∀s∈ss,Ew B s) (D:∀i,i+1<ss.length->¬NH ss i):Bl B fs 256=BV B ss:=by
 have C:=JZ (Jn hf D);rw [<-OC B ss 0 hf C (λs hs=>o1 (Ff (hf s hs))) om];unfold Bl;rw [List.range_eq_range'];refine LW ?_;intro p _;have h1:=P9 hf C p;have h2:(ss.filter (λs=>cov s p)).Perm (fs.filter (λs=>cov s p)):=hp.filter _;rw [qr] at h1
 have h3:fs.filter (λs=>cov s p)=ss.filter (λs=>cov s p):=by
  cases hx:ss.filter (λs=>cov s p) with
  |nil=>rw [hx] at h2;exact h2.nil_eq.symm
  |cons a r=>
   rw [hx] at h1 h2;have hr:r=[]:=sU h1;subst hr;exact List.perm_singleton.1 h2.symm
 rw [h3]
def lR (hp:ss.Perm fs) (hf:∀s∈ss,Ew B s) (hs:Yi ss):
  (∃i,i+1<ss.length/\NH ss i)↔∃p,p<256/\1<fs.countP (λs=>cov s p):=by
 constructor
 ·rintro ⟨i,hi,ho⟩;obtain ⟨p,h1,h2⟩:=nV hf hs hi ho;exact ⟨p,h1,by rw [<-hp.countP_eq];exact h2⟩
 ·rintro ⟨p,h1,h2⟩;apply tf;intro hn;have C:∀i,i+1<ss.length->¬NH ss i:=λi hi ho=>hn ⟨i,hi,ho⟩;have:=P9 hf (JZ (Jn hf C)) p;rw [hp.countP_eq] at this;omega
def Hu (C:o.guard=none) (t e:TypeId) (x:Operand) (ho:o.op= .buildSlice t 1 #[(0,x)])
  (cs:List Value) (hx:a.eval x= .agg cs.toArray) (ie:TypeInfo) (z:Value) (hu:P.underlying t=some (.slice e)) (D:P.info? e=some ie) (hz:ie.zero=some z) (hs:ie.size=cs.length) (h0:0<cs.length) (F:cs.length<=2^24) (H:Nat) (hH:w.heap.size=H) (d:Option Tmp) (hd:o.dst=d)
  (h:K (a.put d (sL H 0 1 1)) (w.alloc (.cells cs.toArray e))):if Region.wanted o (yielded ops a.tmps)=true then Oper.wp P o a w K Q else E:=by
 have hw:Region.wanted o (yielded ops a.tmps)=true:=by simp [Region.wanted,C]
 rw [vu hw];subst hH hd;refine wp_buildSlice t e 1 #[(0,x)] ho cs.toArray ie z hu D hz (by rw [hs];omega) (by rw [hs];omega) ?_ h;have:=Great.fill_whole (s:=ie.size) (by rw [hs];exact h0) [.agg cs.toArray] ((Array.range (1*ie.size)).map (z.cells[· %z.cells.size]!)) (by simp [Value.cells,hs]) sI;simpa [hx,Value.cells] using this
def NV (D:o.guard=none) (ty:TypeId) (x:Operand) (ho:o.op= .load ty x) (ad:Addr) (hx:a.eval x= .pointer (some ad)) (v:Value) (C:(Instr.loadAt ty (.pointer (some ad))).run P w= .ok v w) (d:Option Tmp) (hd:o.dst=d) (h:K (a.put d v) w):
  if Region.wanted o (yielded ops a.tmps)=true then Oper.wp P o a w K Q else E:=by
 have hw:Region.wanted o (yielded ops a.tmps)=true:=by simp [Region.wanted,D]
 rw [vu hw];subst hd;unfold Oper.wp execOp;simp only [ho,hx,uk,C,ye,sr];exact h
def SK (W:World) (b o:Nat) (cs:List Value) (x:Obj) (h:W.rangeAt b o cs):(W.alloc x).rangeAt b o cs:=World.rangeAt_alloc h x
def Dm {W':World} {row:Option Nat} {b o:Nat} {cs:List Value} (h:W.rangeAt b o cs) (hg:W.grownBy W' row) (C:some b≠row):W'.rangeAt b o cs:=λj v hj=>hg.cell (h j v hj) C
def Hv {w':World} (D:o.guard=none) (ty:TypeId) (x y:Operand) (ho:o.op= .store ty x y) (ad:Addr) (v:Value) (hx:a.eval x= .pointer (some ad)) (hy:a.eval y=v) (C:(Instr.storeAt ty (.pointer (some ad)) v).run P w= .ok () w') (hd:o.dst=none) (h:K a w'):
  if Region.wanted o (yielded ops a.tmps)=true then Oper.wp P o a w K Q else E:=by
 have hw:Region.wanted o (yielded ops a.tmps)=true:=by simp [Region.wanted,D]
 rw [vu hw];unfold Oper.wp execOp;simp only [ho,hx,hy,uk,C,ye,sr];rw [Oper.upon_skip,hd];exact h
def Ak {C:Code} (h:∀A:Act,A=a->Code.wp P C Q A w):Code.wp P C Q a w:=h a rfl
def Jr (hg:o.guard=none) (x:Operand) (ho:o.op= .move x) (v:Value) (h:A.eval x=v):YieldsIf P ops S o v A:=
 .inl ⟨by simp [Region.wanted,hg],λw _=>by simp only [execOp,ho,h];rfl⟩
def LZ (hg:o.guard=none) (x:Operand) (ho:o.op= .nilCheck x) (ad:Addr) (h:A.eval x= .pointer (some ad)):YieldsIf P ops S o (.pointer (some ad)) A:=
 .inl ⟨by simp [Region.wanted,hg],λw _=>by simp only [execOp,ho,h];rfl⟩
def MS (hg:o.guard=none) (x:Operand) (ho:o.op= .fieldAddr 85 x 1) (b:Nat) (h:A.eval x= qP b 0):YieldsIf prog ops S o (qP b 5) A:=
 .inl ⟨by simp [Region.wanted,hg],λw _=>by simp only [execOp,ho,h];go_simp⟩
def pA (d:Option Tmp) (hi:ops[i]? =some oi) (hd:oi.dst=d)
  (hs:Region.noSelect ops=true) (hf:Region.free md ops listed i=true) (hr:(Region.ready md ops listed).contains i=true)
  (hQ:∀c a w,Q (.panic c) (a.put d v) w->Q (.panic c) a w) (hy:YieldsIf P ops S oi v a) (hS:S w)
  (h:wpAnyH P md ops Q S fuel (listed.setIfInBounds i true) (a.put d v) w):wpAnyH P md ops Q S (fuel+1) listed a w:=by
 subst hd;exact wpAnyH_take hi hs hf hr hQ hy hS h
def tk (i:Nat) (d:Option Tmp) (hi:ops[i]? =some oi) (hd:oi.dst=d)
  (hc:(Region.noSelect ops&&Region.free md ops listed i&&(Region.ready md ops listed).contains i)=true) (hQ:∀c a w,Q (.panic c) (a.put d v) w->Q (.panic c) a w) (hy:YieldsIf P ops S oi v a) (hS:S w)
  (h:wpAnyH P md ops Q S fuel (listed.setIfInBounds i true) (a.put d v) w):wpAnyH P md ops Q S (fuel+1) listed a w:=by
 simp only [ug] at hc;exact pA d hi hd hc.1.1 hc.1.2 hc.2 hQ hy hS h
def rdy (rs:List Nat) (hc:(Region.ready md ops listed==rs&& !rs.isEmpty)=true) (h:AllReadyH P md ops Q S fuel listed a w rs):wpAnyH P md ops Q S (fuel+1) listed a w:=by
 simp only [ug,beq_iff_eq,Bool.not_eq_true'] at hc;exact wpAnyH_ready hc.1 (λe=>by rw [e] at hc;exact absurd hc.2 sI) h
def Dv (h:d<A.tmps.size):(A.put (some d) v).eval (.tmp d)=v:=by simp [Act.put,Act.eval,h]
def BY (h:d≠e):(A.put (some d) v).eval (.tmp e)=A.eval (.tmp e):=by simp [Act.put,Act.eval,Array.getElem?_setIfInBounds_ne h]
def AU {d:Option Nat}:(A.put d v).tmps.size=A.tmps.size:=by cases d<;>simp [Act.put]
def Ae:(A.put (some d) v).eval (.tmp e)=if d=e/\d<A.tmps.size then v else A.eval (.tmp e):=by
 by_cases h:d=e
 ·subst h;by_cases hs:d<A.tmps.size
  ·rw [vu ⟨rfl,hs⟩];exact Dv hs
  ·rw [vz (λh=>hs h.2)];simp [Act.put,Act.eval,hs]
 ·rw [vz (λx=>h x.1)];exact BY h
def Bm (hg:o.guard=none) (C:∀w',S w'->(execOp A.eval o).run P w'= .ok (.value v) w'):YieldsIf P ops S o v A:=
 .inl ⟨by simp [Region.wanted,hg],C⟩
def UH (hg:o.guard=none) (ty:TypeId) (x:Operand) (ho:o.op= .load ty x) (ad:Addr) (hx:A.eval x= .pointer (some ad)) (v:Value) (C:∀w',S w'->(Instr.loadAt ty (.pointer (some ad))).run P w'= .ok v w'):YieldsIf P ops S o v A:=
 Bm hg λw' hS=>by simp only [execOp,ho,hx,uk,C w' hS,ye,sr]
def MT (hg:o.guard=none) (t:TypeId) (x y:Operand) (ho:o.op= .indexAddr t x y) (vx vy:Value) (hx:A.eval x=vx) (hy:A.eval y=vy) (v:Value) (C:∀w',(Instr.indexAt t vx vy).run P w'= .ok v w'):YieldsIf P ops S o v A:=
 Bm hg λw' hS=>by simp only [execOp,ho,hx,hy,uk,C w',ye,sr]
def UI (hg:o.guard=none) (s:TypeId) (x:Operand) (f:Nat) (ho:o.op= .fieldAddr s x f) (vx:Value) (hx:A.eval x=vx) (v:Value) (C:∀w',(Instr.fieldAt s vx f).run P w'= .ok v w'):YieldsIf P ops S o v A:=
 Bm hg λw' hS=>by simp only [execOp,ho,hx,uk,C w',ye,sr]
def JB (F:o.guard=none) (f n1 n2:Nat) (t1 t2:TypeId)
  (ho:o.op= .call {callee:= .value (.func f),args:=#[.tmp n1,.tmp n2],argTypes:=#[t1,t2]}) (v1 v2:Value) (h1:a.eval (.tmp n1)=v1) (h2:a.eval (.tmp n2)=v2)
  (he:∀args w,(callFunc f args).run P w= .ok (.enter f args) w) (C:Ending->World->Prop) (r:Value) (hp:∀e w',C e w'->e= .returned r) (hc:Calls P f #[v1,v2] w C) (d:Option Tmp) (hd:o.dst=d)
  (h:∀w',C (.returned r) w'->K (a.put d r) w'):
  if Region.wanted o (yielded ops a.tmps)=true then Oper.wp P o a w K Q else E:=by
 have hw:Region.wanted o (yielded ops a.tmps)=true:=by simp [Region.wanted,F]
 have H:a.tmps[n1]?.getD undef=v1:=by rw [<-h1];simp [go_sem]
 have G:a.tmps[n2]?.getD undef=v2:=by rw [<-h2];simp [go_sem]
 rw [vu hw];subst hd;unfold Oper.wp;simp [execOp,ho,resolve,invoke,H,G,Result.andThen,go_sem,he];refine hc.mono ?_;intro e w' D;obtain rfl:=hp e w' D;have:=h w' D;simpa [go_sem] using this
def QT (F:o.guard=none) (f n1 n2 n3:Nat) (t1 t2 t3:TypeId)
  (ho:o.op= .call {callee:= .value (.func f),args:=#[.tmp n1,.tmp n2,.tmp n3],argTypes:=#[t1,t2,t3]}) (v1 v2 v3:Value) (h1:a.eval (.tmp n1)=v1) (h2:a.eval (.tmp n2)=v2) (h3:a.eval (.tmp n3)=v3)
  (he:∀args w,(callFunc f args).run P w= .ok (.enter f args) w) (C:Ending->World->Prop) (r:Value) (hp:∀e w',C e w'->e= .returned r) (hc:Calls P f #[v1,v2,v3] w C) (d:Option Tmp) (hd:o.dst=d)
  (h:∀w',C (.returned r) w'->K (a.put d r) w'):
  if Region.wanted o (yielded ops a.tmps)=true then Oper.wp P o a w K Q else E:=by
 have hw:Region.wanted o (yielded ops a.tmps)=true:=by simp [Region.wanted,F]
 have H:a.tmps[n1]?.getD undef=v1:=by rw [<-h1];simp [go_sem]
 have G:a.tmps[n2]?.getD undef=v2:=by rw [<-h2];simp [go_sem]
 have I:a.tmps[n3]?.getD undef=v3:=by rw [<-h3];simp [go_sem]
 rw [vu hw];subst hd;unfold Oper.wp;simp [execOp,ho,resolve,invoke,H,G,I,Result.andThen,go_sem,he];refine hc.mono ?_;intro e w' D;obtain rfl:=hp e w' D;have:=h w' D;simpa [go_sem] using this
def Gz {q:Bool} (hg:o.guard=some (j,b)) (hj:(ops[j]?).bind (·.dst)=some d) (hd:d<A.tmps.size) (hv:A.eval (.tmp d)= .bool q):Region.wanted o (yielded ops A.tmps)=(q==b):=by
 have h1:A.tmps[d]? =some (.bool q):=by
  have:A.tmps.getD d undef= .bool q:=hv;rw [Array.getD_eq_getD_getElem?,Array.getElem?_eq_getElem hd] at this;rw [Array.getElem?_eq_getElem hd];exact congrArg some this
 have h2:yielded ops A.tmps j=some q:=by
  unfold yielded;rw [hj];simp only [Option.bind_some,h1]
 unfold Region.wanted;rw [hg];show (yielded ops A.tmps j==some b)=(q==b);rw [h2];cases q<;>cases b<;>rfl
def De (hg:o.guard=none) (c x y:Operand) (ho:o.op= .pick c x y) (b:Bool) (v:Value) (hc:A.eval c= .bool b) (h:(if b=true then A.eval x else A.eval y)=v):YieldsIf P ops S o v A:=
 .inl ⟨by simp [Region.wanted,hg],λw _=>by
  simp only [execOp,ho,hc]
  cases b with
  |true=>rw [vu rfl] at h;rw [<-h];rfl
  |false=>rw [vz dz] at h;rw [<-h];rfl⟩
def ow (j d:Nat) (hg:o.guard=some (j,true)) (hj:(ops[j]?).bind (·.dst)=some d) (hd:d<A.tmps.size) (hv:A.eval (.tmp d)= .bool true) (h:YieldsIf P ops S {o with guard:=none} v A):YieldsIf P ops S o v A:=by
 rcases h with ⟨_,h⟩|⟨h,_⟩
 ·exact .inl ⟨Gz hg hj hd hv,h⟩
 ·exact absurd h (by simp [Region.wanted])
def nW (j d:Nat) (hg:o.guard=some (j,true)) (hj:(ops[j]?).bind (·.dst)=some d) (hd:d<A.tmps.size) (hv:A.eval (.tmp d)= .bool false):YieldsIf P ops S o undef A:=
 .inr ⟨Gz hg hj hd hv,rfl⟩
def La (hg:o.guard=none) (op:BinOp) (t t2:TypeId) (x y:Operand) (ho:o.op= .binOp op t x y t2) (vx vy:Value) (hx:A.eval x=vx) (hy:A.eval y=vy) (v:Value) (C:∀w',((do eqGuard op t x y vx vy;binOp op t vx vy:Sem Value)).run P w'= .ok v w'):YieldsIf P ops S o v A:=
 Bm hg λw' hS=>by
  have:=C w';simp only [execOp,ho,hx,hy];simp only [uk] at this ⊢;rw [this];rfl
def EV (hg:o.guard=none) (x:Operand) (ho:o.op= .assign x) (v:Value) (h:A.eval x=v):YieldsIf P ops S o v A:=
 .inl ⟨by simp [Region.wanted,hg],λw _=>by simp only [execOp,ho,h];rfl⟩
def Ex (hg:o.guard=none) (t u:TypeId) (x:Operand) (ho:o.op= .convert t u x) (vx:Value) (hx:A.eval x=vx) (v:Value) (C:∀w',(convert t u vx).run P w'= .ok v w'):YieldsIf P ops S o v A:=
 Bm hg λw' hS=>by simp only [execOp,ho,hx,uk,C w',ye,sr]
def QU (h:∀A:Act,A=a->wpAnyH P md ops Q S fuel listed A w):wpAnyH P md ops Q S fuel listed a w:=h a rfl
def BN (v:Value):A.eval (.const v)=v:=rfl
def Bn (F:o.guard=none) (f:Nat) (args:Array Operand) (ts:Array TypeId)
  (ho:o.op= .call {callee:= .value (.func f),args:=args,argTypes:=ts}) (vs:Array Value) (hv:args.map a.eval=vs)
  (he:∀args w,(callFunc f args).run P w= .ok (.enter f args) w) (C:Ending->World->Prop) (hp:∀e w',C e w'->∃r,e= .returned r) (hc:Calls P f vs w C) (d:Option Tmp) (hd:o.dst=d)
  (h:∀r w',C (.returned r) w'->K (a.put d r) w'):
  if Region.wanted o (yielded ops a.tmps)=true then Oper.wp P o a w K Q else E:=by
 have hw:Region.wanted o (yielded ops a.tmps)=true:=by simp [Region.wanted,F]
 rw [vu hw];subst hd;unfold Oper.wp;simp [execOp,ho,resolve,invoke,hv,Result.andThen,go_sem,he];refine hc.mono ?_;intro e w' D;obtain ⟨r,rfl⟩:=hp e w' D;have:=h r w' D;simpa [go_sem] using this
def tq (i:Nat) (d:Nat) (hi:ops[i]? =some oi) (hy:YieldsIf P ops S oi v a) (hS:S w) (h:wpAnyH P md ops Q S fuel (listed.setIfInBounds i true) (a.put (some d) v) w) (hd:oi.dst=some d:=by exact rfl) (hc:(Region.noSelect ops&&Region.free md ops listed i&&(Region.ready md ops listed).contains i)=true:=by kernel_rfl) (hQ:∀c a w,Q (.panic c) (a.put (some d) v) w->Q (.panic c) a w:=by exact fun _ _ _=>id):wpAnyH P md ops Q S (fuel+1) listed a w:=tk i (some d) hi hd hc hQ hy hS h
def yM (v:Value) (hg:o.guard=none:=by exact rfl) (ho:o.op= .move x:=by exact rfl) (h:A.eval x=v:=by simp [Ae,AU,BN, *]):YieldsIf P ops S o v A:=Jr hg x ho v h
def yA (v:Value) (hg:o.guard=none:=by exact rfl) (ho:o.op= .assign x:=by exact rfl) (h:A.eval x=v:=by simp [Ae,AU,BN, *]):YieldsIf P ops S o v A:=EV hg x ho v h
def yN (hg:o.guard=none:=by exact rfl) (ho:o.op= .nilCheck x:=by exact rfl) (h:A.eval x= .pointer (some ad):=by simp [Ae,AU,BN, *]):YieldsIf P ops S o (.pointer (some ad)) A:=LZ hg x ho ad h
def yF {s:TypeId} {f:Nat} (v:Value) (hg:o.guard=none:=by exact rfl) (ho:o.op= .fieldAddr s x f:=by exact rfl) (hx:A.eval x=vx:=by simp [Ae,AU,BN, *]) (C:∀w',(Instr.fieldAt s vx f).run P w'= .ok v w':=by exact fun w'=>by go_simp):YieldsIf P ops S o v A:=UI hg s x f ho vx hx v C
def yL (v:Value) (C:∀w',S w'->(Instr.loadAt ty (.pointer (some ad))).run P w'= .ok v w') (hg:o.guard=none:=by exact rfl) (ho:o.op= .load ty x:=by exact rfl) (hx:A.eval x= .pointer (some ad):=by simp [Ae,AU,BN, *]):YieldsIf P ops S o v A:=UH hg ty x ho ad hx v C
def sE {p:Prop} (h:p:=by simp [Ae,AU,BN, *]):p:=h
def yB {op:BinOp} (v:Value) (C:∀w',((do eqGuard op t x y vx vy;binOp op t vx vy:Sem Value)).run P w'= .ok v w') (hg:o.guard=none:=by exact rfl) (ho:o.op= .binOp op t x y t2:=by exact rfl) (hx:A.eval x=vx:=by simp [Ae,AU,BN, *]) (hy:A.eval y=vy:=by simp [Ae,AU,BN, *]):YieldsIf P ops S o v A:=La hg op t t2 x y ho vx vy hx hy v C
def yI (v:Value) (C:∀w',(Instr.indexAt t vx vy).run P w'= .ok v w') (hg:o.guard=none:=by exact rfl) (ho:o.op= .indexAddr t x y:=by exact rfl) (hx:A.eval x=vx:=by simp [Ae,AU,BN, *]) (hy:A.eval y=vy:=by simp [Ae,AU,BN, *]):YieldsIf P ops S o v A:=MT hg t x y ho vx vy hx hy v C
def yC {op:BinOp} (v:Value) (hg:o.guard=none:=by exact rfl) (ho:o.op= .binOp op t x y t2:=by exact rfl) (hx:A.eval x=vx:=by simp [Ae,AU,BN, *]) (hy:A.eval y=vy:=by simp [Ae,AU,BN, *]) (C:∀w',((do eqGuard op t x y vx vy;binOp op t vx vy:Sem Value)).run P w'= .ok v w':=by exact fun w'=>by go_simp):YieldsIf P ops S o v A:=La hg op t t2 x y ho vx vy hx hy v C
def yJ (v:Value) (hg:o.guard=none:=by exact rfl) (ho:o.op= .indexAddr t x y:=by exact rfl) (hx:A.eval x=vx:=by simp [Ae,AU,BN, *]) (hy:A.eval y=vy:=by simp [Ae,AU,BN, *]) (C:∀w',(Instr.indexAt t vx vy).run P w'= .ok v w':=by exact fun w'=>by go_simp):YieldsIf P ops S o v A:=MT hg t x y ho vx vy hx hy v C
def onG (j d:Nat) (b:Bool) (hg:o.guard=some (j,b)) (hj:(ops[j]?).bind (·.dst)=some d) (hd:d<A.tmps.size) (hv:A.eval (.tmp d)= .bool b) (h:YieldsIf P ops S {o with guard:=none} v A):YieldsIf P ops S o v A:=by
 rcases h with ⟨_,h⟩|⟨h,_⟩
 ·exact .inl ⟨by simpa using Gz hg hj hd hv,h⟩
 ·exact absurd h (by simp [Region.wanted])
def yG (h:YieldsIf P ops S {o with guard:=none} v A) (hg:o.guard=some (j,b):=by exact rfl) (hj:(ops[j]?).bind (·.dst)=some d:=by exact rfl) (hd:d<A.tmps.size:=by simp [AU, *]) (hv:A.eval (.tmp d)= .bool b:=by simp [Ae,AU,BN, *]):YieldsIf P ops S o v A:=onG j d b hg hj hd hv h
def yO (hg:o.guard=some (j,b):=by exact rfl) (hj:(ops[j]?).bind (·.dst)=some d:=by exact rfl) (hd:d<A.tmps.size:=by simp [AU, *]) (hv:A.eval (.tmp d)= .bool (!b):=by simp [Ae,AU,BN, *]):YieldsIf P ops S o undef A:=.inr ⟨by rw [Gz hg hj hd hv];cases b<;>rfl,rfl⟩
def yl {ad:Addr} (C:∀w',S w'->(Instr.loadAt ty (.pointer (some ad))).run P w'= .ok v w') (hg:o.guard=none:=by exact rfl) (ho:o.op= .load ty x:=by exact rfl) (hx:A.eval x= .pointer (some ad):=by simp [Ae,AU,BN, *]):YieldsIf P ops S o v A:=yL ad v C hg ho hx
def Fu:ByteArray:=⟨#[47]⟩
def Dn (xs:List Ino):Nat->Int->ByteArray->ByteArray
 |0,_,t=>t
 |n+1,id,t=>if id<=1 then t else match xs.find? (λx=>x.id==id) with|some x=>Dn xs n x.parent (Fu++x.name++t)|none=>t
def C6 (xs:List Ino) (id:Int):ByteArray:=Dn xs id.toNat id ByteArray.empty
structure MZ (xs:List Ino):Prop where
 down:∀x∈xs,x.parent<x.id
 there:∀x∈xs,1<x.parent->∃y∈xs,y.id=x.parent
 names:∀x∈xs,x.name.size<=14
def G2 {id:Int} {t:ByteArray} (h:id<=1):Dn xs n id t=t:=by
 cases n with
 |zero=>rfl
 |succ n=>unfold Dn;rw [vu h]
def Jw {xs:List Ino} (hd:∀x∈xs,x.parent<x.id):∀(n m:Nat) (id:Int) (t:ByteArray),id<=n+1->id<=m+1->Dn xs n id t=Dn xs m id t
 |0,m,id,t,h1,h2=>by rw [G2 om,G2 om]
 |n+1,0,id,t,h1,h2=>by rw [G2 om,G2 om]
 |n+1,m+1,id,t,h1,h2=>by
  unfold Dn;split
  ·rfl
  ·cases hx:xs.find? (λx=>x.id==id) with
   |none=>rfl
   |some x=>
    have h3:=hd x (yk hx);have h4:x.id=id:=by have:=qz hx;simpa using this
    exact Jw hd n m x.parent _ om om
def OT {id:Int} (h:id<=1):C6 xs id=ByteArray.empty:=G2 h
def TE (hd:∀x∈xs,x.parent<x.id) {id:Int} {x:Ino} {t:ByteArray} (h1:1<id) (hn:id<=n) (hx:xs.find? (λx=>x.id==id)=some x):Dn xs n id t=Dn xs n x.parent (Fu++x.name++t):=by
 cases n with
 |zero=>omega
 |succ n=>
  have h3:=hd x (yk hx);have h4:x.id=id:=by have:=qz hx;simpa using this
  rw [show Dn xs (n+1) id t=Dn xs n x.parent (Fu++x.name++t) from by conv=>lhs;unfold Dn;rw [vz om,hx]];exact Jw hd n (n+1) _ _ om om
def Jx (xs:List Ino):∀(n:Nat) (id:Int) (t:ByteArray),Dn xs n id t=Dn xs n id ByteArray.empty++t
 |0,id,t=>by show t=ByteArray.empty++t;simp
 |n+1,id,t=>by
  unfold Dn;split
  ·simp
  ·cases xs.find? (λx=>x.id==id) with
   |none=>simp
   |some x=>
    show Dn xs n x.parent (Fu++x.name++t)=Dn xs n x.parent (Fu++x.name++ByteArray.empty)++t;rw [Jx xs n x.parent (Fu++x.name++t),Jx xs n x.parent (Fu++x.name++ByteArray.empty)];simp [ByteArray.append_assoc]
def V4 (kb g I:Nat) (xs:List Ino) (C:Int) (w:World) (h:F5 w kb g I xs) (hn:xs.length<=1000000) (ht:MZ xs) (M:1<C->∃y∈xs,y.id=C) (hi:C<=1000000):
  cT 60 #[qP kb 0,iV C] w λe w'=>e= .returned (.string (C6 xs C))/\w'=w:=by
 obtain ⟨H,HT,N⟩:=H3 h ht M;clear h ht M;go_enter func60,ntmps60;go_wp2
 go_loop [1,5] (λi s=>∃(id:Int) (t:ByteArray),i= iV id/\s= .string t/\id<=C/\Hid (1<id->∃y∈xs,y.id=id)/\Hid ((t.size:Int)<=15*(C-id))/\Hid (Dn xs C.toNat id t=C6 xs C)) (λi _=>(intOf i).toNat)
 case atStart=>exact ⟨C,ByteArray.empty,rfl,rfl,om,N,AC sI,AC rfl⟩
 case round=>
  obtain ⟨id,t,rfl,rfl,a3,HI,HS,HP⟩:=hrel;by_cases G:1<id
  ·obtain ⟨x,hx⟩:=Tw (AB HI G);obtain ⟨K,hK,D⟩:=Fo hx;have a5:=(zy.1 D).1;have J:=AC (Gm kb g I xs id w H hn);rw [hK] at J;have c1:cE w g (K*5+1) (iV x.parent):=H.cell D (i:=1) om rfl;have c2:cE w g (K*5+2) (.string x.name):=H.cell D (i:=2) om rfl;have c7:=H.1;have F:=yk hx;have X:x.id=id:=by have:=qz hx;simpa using this
   have U:=HT.down x F;have Y:=HT.names x F
   have T:=AC (show ((Fu++x.name++t).size:Int)<=15*(C-x.parent) from by
    have h1:=AB HS;rw [ByteArray.size_append,ByteArray.size_append];have h2:Fu.size=1:=rfl
    omega)
   have V:=AC ((TE HT.down (n:=C.toNat) G om hx).symm.trans HP);have O:=AC (λh1=>HT.there x F h1);have Z:x.parent<id:=om;have a2:t.size<=100000000:=o1 (AB HS);have a1:x.name.size<=100000000:=om;have a0:(0:Int)<=(K:Int):=om;have a4:(K:Int)<(xs.length:Int):=om;generalize x.parent=PA at*;generalize x.name=NA at*;clear hx hK D F X Y U HP HS HI
   go_wp2_with fail
   refine J.mono ?_;rintro e w3 ⟨rfl,R⟩;subst R;go_wp2
   go_round
   case rel=>exact ⟨PA,Fu++NA++t,rfl,rfl,om,O,T,V⟩
   case measure=>simp [intOf];omega
  ·have HR:=AC ((G2 (xs:=xs) (n:=C.toNat) (t:=t) (show id<=1 by omega)).symm.trans HP);go_wp2;go_ret;exact ⟨by rw [<-AB HR];rfl,rfl⟩
def pt:(cfR.maps==(Tryz.f3.params.toList++cfS.plain.varTypes prog).any (prog.mapsRec ·))=true:=kf
def pu:(cfR.ifaces==(Tryz.f3.params.toList++cfS.plain.varTypes prog).any (prog.ifacesRec ·))=true:=kf
def pw:(cfR.mapsOut==prog.mapsAmong Tryz.f3.resultTypes.toList)=true:=kf
def pz:(cfR.loops==(Tryz.f3.params.toList++cfS.plain.varTypes prog).any (prog.loopsFrom ·))=true:=kf
def pL:(cfR.wideKeys==(Tryz.f3.params.toList++cfS.plain.varTypes prog++Tryz.f3.resultTypes.toList).any (prog.wideKeysFrom ·))=true:=kf
def qA:cfS.vars.all (prog.varReadable ·)=true:=kf
def qB:Tryz.f3.resultTypes.all (λt=>prog.readableRec t&&decide (t<prog.types.size))=true:=kf
def qC:(cfR.ifacesOut==Tryz.f3.resultTypes.toList.any (prog.ifacesRec ·))=true:=kf
def qD:(cfR.loopsOut==Tryz.f3.resultTypes.toList.any (prog.loopsFrom ·))=true:=kf
def qE:(cfR.plainKeys==prog.plainKeys)=true:=kf
def qF:cfR.shortTexts.isNone=true:=kf
def pM:prog.stopsHeard=true:=kf
def qG:prog.mayEnter=true:=kf
def pN:(cfR.lifted==prog.liftsFinal)=true:=kf
def pO:(prog.make==some cfR.make)=true:=kf
def qH:(cfR.kinds==(if cfR.domain.isEmpty then [] else Tryz.f3.params.toList.map λt=>match prog.underlying t with|some (.int k)=>some k|_=>none))=true:=kf
def qI:(cfR.pinned==cfR.pinnedBy)=true:=kf
def qJ:(cfR.veiled==(Tryz.f3.params.toList++cfS.plain.varTypes prog++Tryz.f3.resultTypes.toList).any (prog.veiledRec ·))=true:=kf
def qK:cfR.veiledFits prog Tryz.f3.params.toList (Tryz.f3.params.toList++cfS.plain.varTypes prog++Tryz.f3.resultTypes.toList)=true:=kf
def YS:prog.funcNamed "tinyos/tinyoslaw.Execs" =some 3:=kf
def mw:Tryz.f3.isInstance prog cfR.origin cfR.targs:=tu kf
def my:Tryz.f3.isWrapper prog cfR.wrapper cfR.mainSum:=by
 unfold Func.isWrapper;rw [vz (tr kf)];exact ⟨rfl,rfl⟩
def mz:cfR.wfByText cfU=true:=kf
def nA:prog.mainIs=some (true,("446c95828bcbd99496ee9492997e49e4b1a25d9411ea6352a708388f3f5f8337" :String).toList):=kf
def kz:true=prog.looks []:=kf
def pP:prog.wantsStandIn 26=false:=kf
def pQ:prog.wantsStandIn 27=false:=kf
def ou:prog.funcs.any Func.goes=false:=kf
def CV {a:Bool} (ha:a=true) (hb:b=true):(a&&b)=true:=by rw [ha,hb];rfl
def gX (h:P.funcs.any Func.goes=false) (f:FuncId):P.goes f=false:=by
 unfold Program.goes;rw [h,Bool.and_false,Bool.or_false,List.any_eq_false];intro g _
 cases hg:P.funcs[g]? with
 |none=>simp
 |some fn=>
  have:=Array.any_eq_false.1 h g (yo.1 hg).1;rw [(yo.1 hg).2] at this;simpa using this
def YT {c:OpenClaim} (h:P.funcs.any Func.goes=false) (hs:c.start= .entering):false=c.goesBy P:=by
 unfold OpenClaim.goesBy Program.goesAt Program.goesFrom;rw [hs]
 cases P.funcNamed c.func with
 |none=>rfl
 |some f=>simp [gX h f]
def gY:joinedFacts prog 3 Tryz.f3 cfS cfR=true:=by
 unfold joinedFacts;exact CV (CV (CV (CV (CV (CV (CV (CV (CV (CV (CV (CV (CV (CV (CV (CV (CV (CV (CV (CV (CV (CV (CV (CV (CV (CV (CV (CV (CV (CV (CV cf1 cf2) cf3) cf4) cf5) cf6) cf7) cf8) cf9) pj) pl) po) pq) pt) pu) pw) pz) pL) qA) qB) qC) qD) qE) qF) pM) qG) pN) pO) qH) qI) qJ) qK
def nB:false=cfR.goesBy prog:=YT ou rfl
end Go.Proofs.YtpcjkidgohpeoaaGreatDoor
