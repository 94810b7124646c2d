import Derived.Test.YtpcjkidgohpeoaaGreatDoorG16
import Derived.Test.YtpcjkidgohpeoaaGreatDoorG17
import Derived.LaidMore
import Derived.LaidHandle
import Derived.OpenShut
import Derived.Stop.Joined
set_option maxRecDepth 100000
set_option maxHeartbeats 4000000
set_option linter.all false
namespace Go.Proofs.YtpcjkidgohpeoaaGreatDoor
open RowKit Maps Proofs.Tryz
variable {xs:List Ino} {a j i c b c' B C:Nat} {x y:Ino} {p:PK} {s:ByteArray} {NB:List Nat} {w w':World} {v:Value} {EL:List (Nat×Az)}
def Kid (xs:List Ino) (i j:Nat):Prop:=∃x y,xs[i]? =some x/\xs[j]? =some y/\y.parent=x.id/\y.parent≠0
def nH (xs:List Ino) (a:Nat):Nat->Nat->Prop
 |0,j=>Kid xs a j
 |n+1,j=>∃m,nH xs a n m/\Kid xs m j
def DF (xs:List Ino) (a j:Nat):Prop:=∃n,nH xs a n j
def DF.kid (h:Kid xs a j):DF xs a j:=⟨0,h⟩
def DF.step {m:Nat} (h:DF xs a m) (k:Kid xs m j):DF xs a j:=by
 obtain ⟨n,hn⟩:=h;exact ⟨n+1,m,hn,k⟩
def DF.parts (h:DF xs a j):Kid xs a j\/∃m,DF xs a m/\Kid xs m j:=by
 obtain ⟨n,hn⟩:=h
 cases n with
 |zero=>exact .inl hn
 |succ n=>
  obtain ⟨m,h1,h2⟩:=hn;exact .inr ⟨m,⟨n,h1⟩,h2⟩
def DF.ind {C:Nat->Prop} (hk:∀j,Kid xs a j->C j) (hs:∀m j,DF xs a m->Kid xs m j->C m->C j):∀j,DF xs a j->C j:=by
 rintro j ⟨n,hn⟩
 induction n generalizing j with
 |zero=>exact hk j hn
 |succ n ih=>
  obtain ⟨m,h1,h2⟩:=hn;exact hs m j ⟨n,h1⟩ h2 (ih m h1)
def ng (D:xs.Pairwise (λx y=>x.id<y.id)) (hx:xs[i]? =some x) (hy:xs[j]? =some y) (h:x.id<y.id):i<j:=by
 obtain ⟨hi,rfl⟩:=zy.1 hx;obtain ⟨hj,rfl⟩:=zy.1 hy;have hp:=vd.1 D;rcases rf i j with q|q|q
 ·exact q
 ·subst q;omega
 ·have:=hp j i hj hi q;omega
def IR (D:xs.Pairwise (λx y=>x.id<y.id)) (hx:xs[i]? =some x) (hy:xs[j]? =some y) (h:x.id=y.id):i=j:=by
 obtain ⟨hi,rfl⟩:=zy.1 hx;obtain ⟨hj,rfl⟩:=zy.1 hy;have hp:=vd.1 D;rcases rf i j with q|q|q
 ·have:=hp i j hi hj q;omega
 ·exact q
 ·have:=hp j i hj hi q;omega
def Kid.lt (hi:EX p) (h:Kid p.xs i j):i<j:=by
 obtain ⟨x,y,hx,hy,hp,_⟩:=h;refine ng hi.incr hx hy ?_;have:=(hi.down y (zv hy)).2;omega
def Kid.uniq (hi:EX p) {i':Nat} (h:Kid p.xs i j) (h':Kid p.xs i' j):i=i':=by
 obtain ⟨x,y,hx,hy,hp,_⟩:=h;obtain ⟨x',y',E,D,F,_⟩:=h';rw [hy] at D;obtain rfl:=zr D;exact IR hi.incr hx E om
def Kid.bound (h:Kid xs i j):i<xs.length/\j<xs.length:=by
 obtain ⟨x,y,hx,hy,_⟩:=h;exact ⟨(zy.1 hx).1,(zy.1 hy).1⟩
def DF.lt (hi:EX p) (h:DF p.xs a j):a<j:=by
 refine DF.ind (C:=λj=>a<j) (λj hk=>hk.lt hi) (λm j _ hk ih=> ?_) j h;have:=hk.lt hi;omega
def DF.bound (h:DF xs a j):j<xs.length:=by
 rcases h.parts with hk|⟨m,_,hk⟩
 ·exact hk.bound.2
 ·exact hk.bound.2
def DF.head (h:DF xs a j):∃c,Kid xs a c/\(c=j\/DF xs c j):=by
 refine DF.ind (C:=λj=>∃c,Kid xs a c/\(c=j\/DF xs c j)) (λj hk=>⟨_,hk,.inl rfl⟩) (λm j _ hk ih=> ?_) j h;obtain ⟨c,h1,h2⟩:=ih;refine ⟨c,h1,.inr ?_⟩;rcases h2 with rfl|h2
 ·exact DF.kid hk
 ·exact DF.step h2 hk
def DF.cons (h:Kid xs a c) (h2:DF xs c j):DF xs a j:=by
 exact DF.ind (C:=λj=>DF xs a j) (λj hk=>DF.step (DF.kid h) hk) (λm j _ hk ih=>DF.step ih hk) j h2
def DF.chain (hi:EX p) (h:DF p.xs a j):DF p.xs b j->a=b\/DF p.xs a b\/DF p.xs b a:=by
 refine DF.ind (C:=λj=>DF p.xs b j->a=b\/DF p.xs a b\/DF p.xs b a) (λj hk h2=> ?_) (λm j hm hk ih h2=> ?_) j h
 ·rcases h2.parts with D|⟨m,hm,D⟩
  ·exact .inl (hk.uniq hi D)
  ·rw [hk.uniq hi D];exact .inr (.inr hm)
 ·rcases h2.parts with D|⟨m2,E,D⟩
  ·rw [<-hk.uniq hi D];exact .inr (.inl hm)
  ·rw [<-hk.uniq hi D] at E;exact ih E
def Ul (hi:EX p) (h:Kid p.xs i c) (h':Kid p.xs i c'):¬DF p.xs c' c:=by
 intro hd;have hl:=h'.lt hi;rcases hd.parts with hk|⟨m,hm,hk⟩
 ·have:=h.uniq hi hk;omega
 ·have e:=h.uniq hi hk;subst e;have:=hm.lt hi;omega
def sib (hi:EX p) (h:Kid p.xs i c) (h':Kid p.xs i c') (hc:j=c\/DF p.xs c j) (D:j=c'\/DF p.xs c' j):c=c':=by
 rcases hc with rfl|hc
 ·rcases D with rfl|D
  ·rfl
  ·exact (Ul hi h h' D).elim
 ·rcases D with rfl|D
  ·exact (Ul hi h' h hc).elim
  ·rcases hc.chain hi D with q|q|q
   ·exact q
   ·exact (Ul hi h' h q).elim
   ·exact (Ul hi h h' q).elim
def GC (hi:EX p) (hy:p.xs[j]? =some y) (hp:y.parent≠0):∃m x,p.xs[m]? =some x/\x.id=y.parent/\x.dir=true/\Kid p.xs m j:=by
 obtain ⟨x,hx,h1,h2⟩:=hi.parents y (zv hy) hp;obtain ⟨m,hm⟩:=yj.1 hx;exact ⟨m,x,hm,h1,h2,x,y,hm,hy,h1.symm,hp⟩
def eL (hi:EX p) {x0:Ino} (h0:p.xs[0]? =some x0) (F:x0.id=1):∀(j:Nat),0<j->j<p.xs.length->DF p.xs 0 j:=by
 intro j
 induction j using Nat.strongRecOn with
 |ind j ih=>
  intro hj hl;obtain ⟨y,hy⟩:∃y,p.xs[j]? =some y:=⟨_,zz hl⟩
  have hp:y.parent≠0:=by
   intro e;have h1:=(hi.root1s y (zv hy) e).1;have:=IR hi.incr h0 hy om;omega
  obtain ⟨m,x,hm,_,_,hk⟩:=GC hi hy hp;have D:=hk.lt hi;by_cases E:m=0
  ·subst E;exact .kid hk
  ·exact .step (ih m D om om) hk
def Wf (hi:EX p) (hx:p.xs[i]? =some x) (hd:x.dir=false):¬Kid p.xs i j:=by
 rintro ⟨x',y,D,hy,hp,F⟩;rw [hx] at D;obtain rfl:=zr D;obtain ⟨m,z,hm,hz,E,hk⟩:=GC hi hy F;have:=IR hi.incr hx hm om;subst this;rw [hx] at hm;obtain rfl:=zr hm;rw [hd] at E;cases E
def lr (D:xs.Pairwise (λx y=>x.id<y.id)) (hx:xs[i]? =some x):xs.find? (λy=>y.id==x.id)=some x:=by
 cases hf:xs.find? (λy=>y.id==x.id) with
 |none=>
  have:=xm.1 hf x (zv hx)
  simp at this
 |some y=>
  obtain ⟨he,j,hj,hy,_⟩:=tm.1 hf;have E:y.id=x.id:=sU he;have:=IR D (zy.2 ⟨hj,hy⟩) hx E;subst this;rw [zz hj,hy] at hx;exact hx
def Lm (hi:EX p) (hy:p.xs[j]? =some y) (hp:y.parent≠0):C6 p.xs y.id=C6 p.xs y.parent++(Fu++y.name):=by
 have hm:=zv hy;have hd:=hi.down y hm;have D:∀x∈p.xs,x.parent<x.id:=λx hx=>(hi.down x hx).2;unfold C6;rw [TE D om om (lr hi.incr hy),Jx,Jw D y.id.toNat y.parent.toNat y.parent _ om om];simp
def ZI:∀(A B n m:List UInt8),(∀c∈n,c≠47)->(∀c∈m,c≠47)->A++47::n=B++47::m->A=B/\n=m:=by
 intro A B n m hn hm h;rcases List.append_eq_append_iff.1 h with ⟨c,h1,h2⟩|⟨c,h1,h2⟩
 ·cases c with
  |nil=>simp at h1 h2;exact ⟨h1.symm,h2⟩
  |cons d r=>
   simp at h2;have:(47:UInt8)∈n:=by rw [h2.2];simp
   exact absurd rfl (hn 47 this)
 ·cases c with
  |nil=>simp at h1 h2;exact ⟨h1,h2.symm⟩
  |cons d r=>
   simp at h2;have:(47:UInt8)∈m:=by rw [h2.2];simp
   exact absurd rfl (hm 47 this)
def Qt (h:Ba s=true):∀c∈s.data.toList,c≠47:=by
 intro c hc;unfold Ba at h;simp only [ug] at h;have:=za.1 h.2 c hc;simp at this;exact this.2
def Io (hi:EX p) (hy:p.xs[j]? =some y) (hp:y.parent≠0):(C6 p.xs y.id).data.toList=(C6 p.xs y.parent).data.toList++47::y.name.data.toList:=by
 rw [Lm hi hy hp];simp [Fu,ByteArray.data_append]
def Nf (hi:EX p) (hy:p.xs[j]? =some y) (hp:y.parent=0):(C6 p.xs y.id).data.toList=[]:=by
 rw [OT (by rw [(hi.root1s y (zv hy) hp).1];omega)];rfl
def it (hi:EX p):∀(i j:Nat) (x y:Ino),p.xs[i]? =some x->p.xs[j]? =some y->(C6 p.xs x.id).data.toList=(C6 p.xs y.id).data.toList->i=j:=by
 intro i
 induction i using Nat.strongRecOn with
 |ind i ih=>
  intro j x y hx hy h;by_cases D:x.parent=0
  ·by_cases E:y.parent=0
   ·exact IR hi.incr hx hy (by rw [(hi.root1s x (zv hx) D).1,(hi.root1s y (zv hy) E).1])
   ·rw [Nf hi hx D,Io hi hy E] at h;simp at h
  ·by_cases E:y.parent=0
   ·rw [Nf hi hy E,Io hi hx D] at h;simp at h
   ·rw [Io hi hx D,Io hi hy E] at h;obtain ⟨h1,h2⟩:=ZI _ _ _ _ (Qt (hi.names x (zv hx) D)) (Qt (hi.names y (zv hy) E)) h;obtain ⟨a,xa,ha,F,_,H⟩:=GC hi hx D;obtain ⟨b,xb,hb,I,_,J⟩:=GC hi hy E;rw [<-F,<-I] at h1;have G:=ih a (H.lt hi) b xa xb ha hb h1;subst G;rw [ha] at hb;obtain rfl:=zr hb;refine IR hi.incr hx hy (hi.kids x (zv hx) y (zv hy) om D ?_);rw [tw,tw];exact h2
def ZJ (hi:EX p) (hx:p.xs[i]? =some x) (h:Eg p.xs NB x.id s=some b):∃j y,Kid p.xs i j/\p.xs[j]? =some y/\y.name=s/\NB[j]? =some b:=by
 unfold Eg at h
 cases hf:p.xs.findIdx? (BD x.id s) with
 |none=>rw [hf] at h;cases h
 |some j=>
  rw [hf] at h;obtain ⟨hj,he,_⟩:=uo.1 hf;unfold BD at he;simp only [ug,beq_iff_eq] at he;have h1:=(hi.ids x (zv hx)).1;refine ⟨j,p.xs[j],⟨x,p.xs[j],hx,zz hj,he.1,om⟩,zz hj,Qn ?_,h⟩;have h2:=he.2;rw [tw,tw] at h2;exact h2
def ZK (hi:EX p) (hx:p.xs[i]? =some x) (hy:p.xs[j]? =some y) (hk:Kid p.xs i j) (hl:NB.length=p.xs.length):Eg p.xs NB x.id y.name=NB[j]? :=by
 obtain ⟨x',y',D,E,hp,F⟩:=hk;rw [hx] at D;obtain rfl:=zr D;rw [hy] at E;obtain rfl:=zr E;unfold Eg
 cases hf:p.xs.findIdx? (BD x.id y.name) with
 |none=>
  have:=sh.1 hf y (zv hy);unfold BD at this
  simp [hp] at this
 |some k=>
  obtain ⟨hk,he,_⟩:=uo.1 hf;unfold BD at he;simp only [ug,beq_iff_eq] at he;have e:k=j:=IR hi.incr (zz hk) hy (hi.kids _ (rp hk) y (zv hy) om om he.2);rw [e]
def CC (p:PK) (j:Nat):AQ:=match p.xs[j]? with|some x=>⟨C6 p.xs x.id,x.dir,p.cs.getD j []⟩|none=>⟨ByteArray.empty,false,[]⟩
def Ng {c:List Int} (hx:p.xs[j]? =some x) (hc:p.cs[j]? =some c):CC p j=⟨C6 p.xs x.id,x.dir,c⟩:=by
 unfold CC;rw [hx,zk,hc];rfl
def Ek (p:PK) (e:Nat×Az):Value:= .slice e.2.a (CC p e.1).bytes.length e.2.c
def Cs (p:PK) (e:Nat×Az):List Value:=[.string (CC p e.1).path,.bool (CC p e.1).dir,Ek p e]
def BX (p:PK) (EL:List (Nat×Az)):List Value:=EL.flatMap (Cs p)
def PW (p:PK) (A B:List (Nat×Az)):BX p (A++B)=BX p A++BX p B:=by simp [BX]
def Gh (p:PK) (EL:List (Nat×Az)):(BX p EL).length=EL.length*3:=by
 induction EL with
 |nil=>rfl
 |cons a r ih=>
  have e:BX p (a::r)=Cs p a++BX p r:=by simp [BX]
  rw [e,zm,ih];simp [Cs];omega
def J9 (p:PK) (e:Nat×Az):∀v∈Cs p e,v.oneCell'=true:=by
 intro v hv;simp only [Cs,Ek,vp,uu,or_false] at hv;rcases hv with rfl|rfl|rfl<;>rfl
def Um (p:PK) (EL:List (Nat×Az)):∀v∈BX p EL,v.oneCell'=true:=by
 intro v hv;obtain ⟨e,_,he⟩:=sy.1 hv;exact J9 p e v he
def Dq (e:Nat×Az):Option Nat:=e.2.a.map Addr.block
def IA (p:PK) (e:Nat×Az):(Ek p e).ownBlock=Dq e:=by
 unfold Ek Dq Value.ownBlock;cases e.2.a<;>rfl
structure Ho (p:PK) (w:World) (B:Nat) (v:Value) (EL:List (Nat×Az)):Prop where
 row:w.ownsRow B 39 3 v EL.length (BX p EL)
 each:∀e∈EL,w.ownsRow B 5 1 (Ek p e) (CC p e.1).bytes.length (AF (CC p e.1).bytes)
 apart:EL.Pairwise (λe f=>Dq e≠none->Dq e≠Dq f)
 own:∀e∈EL,Dq e≠none->v.ownBlock≠Dq e
 nil:EL=[]->v= sN
def Ho.below (h:Ho p w B v EL) (hb:Bw w w'):Ho p w' B v EL:=
 ⟨Aw h.row (AC hb),λe he=>Aw (h.each e he) (AC hb),h.apart,h.own,h.nil⟩
def Ho.base {B':Nat} (h:Ho p w B v EL) (hB:B'<=B):Ho p w B' v EL:=
 ⟨EN h.row hB,λe he=>EN (h.each e he) hB,h.apart,h.own,h.nil⟩
def Ho.empty (p:PK) (w:World) (B:Nat):Ho p w B sN []:=⟨uy _ _ _ _,λe he=>absurd he sI,List.Pairwise.nil,λe he=>absurd he sI,λ_=>rfl⟩
def Ho.blk (h:Ho p w B v EL) {e:Nat×Az} (he:e∈EL) {k:Nat} (hk:Dq e=some k):B<=k/\k<w.heap.size:=(h.each e he).lt k (by rw [IA];exact hk)
def Ho.app {B2 g G:Nat} {EL2:List (Nat×Az)} (h:Ho p w B v EL) (h2:∀e∈EL2,w.ownsRow B2 5 1 (Ek p e) (CC p e.1).bytes.length (AF (CC p e.1).bytes)) (I:EL2.Pairwise (λe f=>Dq e≠none->Dq e≠Dq f)) (hB:B<=B2)
  (hv:∀k,v.ownBlock=some k->k<B2) (hE:∀e∈EL,∀k,Dq e=some k->k<B2) (H:EL2≠[])
  (E:w'.ownsRow B 39 3 (sL g 0 (EL.length+EL2.length) G) (EL.length+EL2.length) (BX p EL++BX p EL2)) (hg:w.grownBy w' v.ownBlock) (F:v.ownBlock=some g\/w.heap.size<=g):
  Ho p w' B (sL g 0 (EL.length+EL2.length) G) (EL++EL2):=by
 have D:∀e∈EL2,∀k,Dq e=some k->B2<=k/\k<w.heap.size:=λe he k hk=>(h2 e he).lt k (by rw [IA];exact hk);refine ⟨?_,λe he=> ?_,ud.2 ⟨h.apart,I,λe he f hf hn=> ?_⟩,λe he hn=> ?_,λq=>absurd (List.append_eq_nil_iff.1 q).2 H⟩
 ·rw [zm,PW];exact E
 ·rcases vo.1 he with he|he
  ·refine (h.each e he).kept hg ?_;by_cases hb:Dq e=none
   ·left;rw [IA];exact hb
   ·right;rw [IA];exact λq=>h.own e he hb q.symm
  ·refine EN ((h2 e he).kept hg ?_) hB;by_cases hb:Dq e=none
   ·left;rw [IA];exact hb
   ·right;rw [IA];intro q;obtain ⟨k,hk⟩:=qg.1 hb;have h1:=D e he k hk;have h3:=hv k (by rw [<-q,hk]);omega
 ·obtain ⟨k,hk⟩:=qg.1 hn;intro q;have h1:=hE e he k hk;have h3:=D f hf k (by rw [<-q,hk]);omega
 ·show some g≠Dq e;obtain ⟨k,hk⟩:=qg.1 hn;intro q;rw [hk] at q;have e1:g=k:=sU q;subst e1;rcases vo.1 he with he|he
  ·rcases F with q|q
   ·exact h.own e he hn (by rw [q,hk])
   ·have:=(h.blk he hk).2;omega
  ·have h1:=D e he g hk;rcases F with q|q
   ·have:=hv g q;omega
   ·omega
def Kk:∀(l m:List Nat),l.Nodup->(∀x∈l,x∈m)->l.length<=m.length
 |[],m,_,_=>sI
 |a::r,m,hn,hs=>by
  obtain ⟨h1,h2⟩:=List.nodup_cons.1 hn;have ha:a∈m:=hs a sI;have:=Kk r (m.erase a) h2 (λx hx=>(List.mem_erase_of_ne (λ(e:x=a)=>h1 (by rw [<-e];exact hx))).2 (hs x (by simp [hx])));rw [List.length_erase_of_mem ha] at this;have:0<m.length:=rl ha;simp;omega
def iu:(prog.info? 5).map (λi=>(i.zero,i.size,i.bytes))=some (some (.int .u8 0),1,1):=kf
def Wg {c:List Int} (w:World) (hv:GQ w B v c) (hl:c.length<=1000000):cT 197 #[v] w λe w'=>∃a k,e= .returned (.slice a c.length k)/\w'.ownsRow w.heap.size 5 1 (.slice a c.length k) c.length (AF c)/\Bw w w':=by
 rcases hv with ⟨rfl,rfl⟩|⟨R,cp,T,rfl,hR,H,_,_⟩
 ·refine (AnyE.slices_Clone_nil Pd 0 0 w).mono ?_;rintro e w' ⟨rfl,rfl⟩;exact ⟨none,0,rfl,uy _ _ _ _,zw _ _⟩
 ·obtain ⟨i,hi,D,F,G⟩:=info_parts iu;refine (AnyE.slices_Clone Pd i (.int .u8 0) 1 1 hi D F G rfl dz sizeOf5 R 0 c.length cp (AF c) w (by rw [AG];omega) (by unfold maxLen;omega) om (λj u hj=> ?_) (Dd c)).mono ?_
  ·rw [zq];refine hR.cell ?_;rw [DU,zo (zy.1 hj).1];exact hj
  ·rintro e w' ⟨v',rfl,ho,hn,hb⟩;have ho:w'.ownsRow w.heap.size 5 1 v' c.length (AF c):=ho;rcases ho.2 with ⟨rfl,h0⟩|⟨g,I,J,E,_⟩
   ·exact absurd rfl hn
   ·subst E;exact ⟨_,_,rfl,ho,hb⟩
section
variable {oc:Int->Int}
def iw {k:Lit} (h:WideAt.IsKeyLit k):k.sameKey k=true:=by cases k<;>simp_all [WideAt.IsKeyLit,Lit.sameKey]
end
def bZ (pb so M K:Nat) (w:World) (hM:M<256) (hK:K<256) (x:Int) (hx:x=(M:Int)*256+(K:Int)):
  cT 319 #[qP pb so,uV x] w λe w'=>e= .returned (qP pb (so+M*257+1+K))/\w'=w:=by
 have h0:0<=x:=om;have q1:x.tdiv 256=(M:Int):=by rw [tj h0];omega
 have q2:x.tmod 256=(K:Int):=by rw [yi h0];omega
 have E:(0:Int)<=(M:Int):=om;have F:(M:Int)<256:=om;have D:(0:Int)<=(K:Int):=om;have G:(K:Int)<256:=om;clear hx;go_enter func319,ntmps319;go_wp2;go_ret;exact ⟨sI,rfl⟩
def GD (w:World) (bb bo:Nat) (B:List Int):Nat->World
 |0=>w
 |j+1=>(GD w bb bo B j).setCell (xK bb (bo+j)) (.int .u8 (B.getD j 0))
def Lq (w:World) (bb bo:Nat) (B:List Int):∀j,w.grownBy (GD w bb bo B j) (some bb)
 |0=>zj w _
 |j+1=>AI (Lq w bb bo B j) _ _
def Qx (w:World) (bb bo:Nat) (B:List Int) (i:Nat):∀j,j<=i->(GD w bb bo B j).cell? (xK bb (bo+i))=w.cell? (xK bb (bo+i))
 |0,_=>rfl
 |j+1,h=>by
  show ((GD w bb bo B j).setCell (xK bb (bo+j)) _).cell? (xK bb (bo+i))=_;have ho:bo+j≠bo+i:=om;rw [yy _ _ _ _ (λe=>ho (by injection e))];exact Qx w bb bo B i j om
def Oj (w:World) (bb bo:Nat) (B:List Int) (i:Nat) (h:w.frozen? (xK bb i)=false):∀j,(GD w bb bo B j).frozen? (xK bb i)=false
 |0=>h
 |j+1=>by
  show ((GD w bb bo B j).setCell (xK bb (bo+j)) _).frozen? (xK bb i)=_;simpa using Oj w bb bo B i h j
def Ok {f:Nat->Int} {E D:Int} {n:Nat} (h:Cl f E D n=true) (hj:j<n):IntKind.u64.wrap (D+(j:Int))<65536:=by
 unfold Cl at h;have:=za.1 h j (zf.2 hj);unfold GT at this;simp at this;exact this.1
def ls (b:Bool) (w F:World) (e:Ending) (w':World):Prop:=e= .returned (.bool b)/\(b=true->w'=F)/\(b=false->w'=w)
def jF (pb so bb bo Z:Nat) (f g:Nat->Int) (F D:Int) (n:Nat) (w:World) (hn:n<=10000) (a3:bb≠pb) (ha:0<=D/\D<=18446744073709551615) (a8:n<=Z) (hc:∀j:Nat,j<256->w.cell? (xK pb (so+j*257))=some (.int .u8 (f j))) (hg:∀M K:Nat,M<256->K<256->w.cell? (xK pb (so+M*257+1+K))=some (.int .u8 (g (M*256+K)))) (hb:∀i,i<n->∃z,w.cell? (xK bb (bo+i))=some (.int .u8 z)) (Y:∀i,w.frozen? (xK bb i)=false):
  cT 244 #[qP pb so,sL bb bo n Z,uV D,.int .u8 F] w (ls (Cl f F D n) w (GD w bb bo ((List.range n).map λi:Nat=>g (IntKind.u64.wrap (D+(i:Int))).toNat) n)):=by
 have N:=AC (Ws pb so f F D n w hn hc);obtain ⟨HG,HB,a0⟩:=H3 hg hb Y;obtain ⟨b,L⟩:=xE (Cl f F D n);have R:Hid (b=true->∀j,j<n->IntKind.u64.wrap (D+(j:Int))<65536):=λh j hj=>Ok (L▸h) hj;rw [<-L] at N ⊢;obtain ⟨BB,O⟩:=xE ((List.range n).map λi:Nat=>g (IntKind.u64.wrap (D+(i:Int))).toNat)
 have a9:=AC (show ∀j,j<n->BB.getD j 0=g (IntKind.u64.wrap (D+(j:Int))).toNat from λj hj=>by
  rw [O,zk,ze,xo hj];rfl)
 rw [<-O];clear O hc hg hb Y L;go_enter func244,ntmps244
 go_wp2_with fail
 refine N.mono ?_;rintro e w1 ⟨rfl,b0⟩;subst b0;clear N
 cases b with
 |false=>
  go_wp2;go_ret
  exact ⟨rfl,λh=>(by cases h),λ_=>rfl⟩
 |true=>
 have a7:=AC (AB R rfl);clear R;obtain ⟨W0,H⟩:=xE w1;rw [<-H] at HG HB a0;have a6:=AC H;go_wp2
 go_loopw [19] (λi wr=>∃j:Nat,j<=n/\i= iV j/\Hid (wr=GD W0 bb bo BB j)) (λi _=>n-(intOf i).toNat)
 case atStart=>exact ⟨0,om,rfl,AC H.symm⟩
 case round=>
  obtain ⟨j,hj,rfl,G⟩:=hrel;clear H;by_cases J:j<n
  ·have b3:(j:Int)<(n:Int):=om;have b6:(0:Int)<=(j:Int):=om;have b7:IntKind.u64.wrap (j:Int)=(j:Int):=by rw [yh];omega
   have a1:=AB a7 j J;have I:=AB a9 j J;obtain ⟨X,hX⟩:=xE (IntKind.u64.wrap (D+(j:Int)));rw [<-hX] at a1 I;have b2:0<=X:=by rw [hX,yh];omega
   have q1:=hX.symm;obtain ⟨M,hM⟩:∃M:Nat,(M:Int)=X/256:=⟨(X/256).toNat,om⟩;obtain ⟨K,hK⟩:∃K:Nat,(K:Int)=X%256:=⟨(X%256).toNat,om⟩;have a2:X.toNat=M*256+K:=om;rw [a2] at I;have E:=AB HG M K om om;rw [<-I] at E
   have a4:wr.cell? (xK pb (so+M*257+1+K))=some (.int .u8 (BB.getD j 0)):=by
    rw [AB G];exact (Lq W0 bb bo BB j).cell E (sU a3.symm)
   obtain ⟨z,hz⟩:=AB HB j J;have b4:wr.cell? (xK bb (bo+j))=some (.int .u8 z):=by rw [AB G,Qx W0 bb bo BB j j (zx _)];exact hz
   have b5:wr.frozen? (xK bb (bo+j))=false:=by rw [AB G];exact Oj W0 bb bo BB _ (AB a0 _) j
   have T:=AC (bZ pb so M K wr om om X om);have U:=AC (show wr.setCell (xK bb (bo+j)) (.int .u8 (BB.getD j 0))=GD W0 bb bo BB (j+1) from by rw [AB G];rfl);obtain ⟨V,hV⟩:=xE (BB.getD j 0);rw [<-hV] at a4 U;clear hX hM hK a2 I E hz a1 hV
   go_wp2_with fail
   refine T.mono ?_;rintro e w2 ⟨rfl,a5⟩;subst a5;clear T;go_wp2;exact ⟨⟨j+1,om,sI,AC (AB U)⟩,by simp only [intOf];omega⟩
  ·have b1:j=n:=om;subst b1;go_wp2;go_ret;exact ⟨rfl,λ_=>(by rw [<-AB a6];exact AB G),λh=>(by cases h)⟩
structure POk (p:AP):Prop where
 cnt:p.PS.length<=100000
 pages:∀q∈p.PS,q.bytes.length=256/\AK q.bytes
 pc:0<=p.pc/\p.pc<=18446744073709551615
 regs:∀r,0<=p.R.getD r 0/\p.R.getD r 0<=18446744073709551615
 pid:p.pid=1
 par:p.par=0
structure pX (w:World) (C base kb g cap gp cp:Nat) (k:RK) (p:AP) (aa:Option Addr) (ga ca:Nat):Prop where
 ker:EB w base kb g cap k
 kbl:kb<base
 bs:base<=w.heap.size
 pv:k.pv= sL gp 0 1 cp
 ov:k.ov= sN
 cv:k.cv= sN
 cnt:k.inos.length<=100000
 linked:∀x∈k.inos,0<x.parent\/x.id=1
 bytes:∀x∈k.inos,∃a n c,x.bytes= .slice a n c
 proc:pV w gp 0 p aa ga ca
 ok:POk p
 ne:gp≠kb/\gp≠g/\ga≠kb/\ga≠g
 gl:ga<w.heap.size
 low:C<=kb/\C<=g/\C<=gp/\C<=ga
structure Cd (w w':World) (B C:Nat):Prop where
 os:w'.os=w.os
 tape:w'.tape=w.tape
 output:w'.output=w.output
 size:w.heap.size<=w'.heap.size
 block:∀b,b<w.heap.size->¬(B<=b/\b<C)->w'.heap[b]? =w.heap[b]?
def Cd.cell (h:Cd w w' B C) (hc:w.cell? (xK b i)=some v) (hb:C<=b\/b<B):w'.cell? (xK b i)=some v:=by
 have hl:=zu w _ hc;unfold World.cell? at hc ⊢;rw [h.block b hl om];exact hc
def jL (n:Int) (w:World):cT 19 #[iV n] w λe w'=>e= .returned (iV n)/\w'=w:=by
 go_enter func19,ntmps19;go_wp2;go_ret;exact ⟨rfl,rfl⟩
def Cd.ofBelow (h:Bw w w'):Cd w w' B C:=⟨h.os,h.tape,h.output,h.size,λb hb _=>h.block b hb⟩
def X4 (pid n:Int) (w:World) (hg:cE w 0 0 (.iface 204 (.agg #[qP 6 33]))):
  cT 139 #[iV pid,.iface 40 (iV n)] w λe w'=>∃q,e= .returned (.iface 331 (qP q 0))/\w'.cell? (xK q 1)=some (iV n)/\Bw w w'/\w.heap.size<=q:=by
 have HT:=AC (Ss n w hg);clear hg;go_enter func139,ntmps139
 go_wp2_with fail
 refine HT.mono ?_;rintro e w2 ⟨rfl,E⟩;have D:=AC E;clear E HT;go_wp2;go_ret;refine ⟨w2.heap.size,rfl,?_,D.alloc D.size _,D.size⟩;simp
def PZ {P:Program} {ops:Array Oper} {rest:List Oper} {o:Oper} {a:Act} {Q:Exit->Act->World->Prop} (J:o.guard=none) (d s:Operand) (dT sT:TypeId)
  (ho:o.op= .call {callee:= .builtin .copy,args:=#[d,s],argTypes:=#[dT,sT]}) (D:TypeId) (hu:P.underlying dT=some (.slice D)) (M:(P.info? D).map (·.size)=some 1)
  (g off F H:Nat) (G:ByteArray) (hd:a.eval d= sL g off F H) (hs:a.eval s= .string G)
  (I:List Value) (t:TypeId) (hg:AE w g t I) (N:G.size<=F) (L:off+G.size<=I.length)
  (h:∀w',Hid (AE w' g t (splice I off (Lib.byteCells G.data.toList)))->w.grownBy w' (some g)->wpList P ops Q rest (a.put o.dst (goInt G.size)) w'):wpList P ops Q (o::rest) a w:=by
 refine wpList_plain J λK hK=> ?_;have:=IH (P:=P) (ops:=ops) (o:=o) (a:=a) (w:=w) (K:=K) (Q:=Q) (E:=True) J d s dT sT ho D hu M g off F H G hd hs I t hg N L (λw' h1 h2=>hK _ _ (h w' h1 h2));have hw:Region.wanted o (yielded ops a.tmps)=true:=by simp [Region.wanted,J]
 rw [vu hw] at this;exact this
def F4:List Int:=[127,69,76,70,2,1,1]++List.replicate 253 0
def D9:List Int:=((((((((((((((F4.set 16 2).set 18 243).set 20 1).set 25 1).set 32 64).set 52 64).set 54 56).set 56 1).set 64 1).set 68 5).set 73 1).set 81 1).set 96 4).set 104 4).set 256 22
def gK:splice (AF (List.replicate 260 0)) 0 (Lib.byteCells [127,69,76,70,2,1,1])=AF F4:=kf
def kg (w:World):cT 7 #[] w λe w'=>e= .returned (sL w.heap.size 0 260 260)/\AE w' w.heap.size 5 (AF D9)/\Bw w w':=by
 obtain ⟨Z,hZ⟩:=xE (CW 260)
 have L:∀w,(Instr.makeSlice 36 (iV 260) (iV 260)).run prog w= .ok (sL w.heap.size 0 260 260) (w.alloc (.cells Z 5)):=by
  intro w;have:=run_make_row' (P:=prog) 36 5 (.int .u8 0) 1 underlying36 M9 rfl .i64 .i64 260 dz dz w;rw [hZ];rwa [Hd] at this
 have HZ:=AC (show AE (w.alloc (.cells Z 5)) w.heap.size 5 (AF (List.replicate 260 0)) from by rw [hZ];exact AE.new w 5 _);have HB:Hid (Bw w (w.alloc (.cells Z 5))):=bA;clear hZ;go_enter func7,ntmps7
 go_upto_region 3 with (refine PZ rfl _ _ 36 9 rfl 5 underlying36 N0 w.heap.size 0 260 260 _ (by rfl) (by rfl) _ _ (AB HZ) dz (by rw [AG];decide) ?_;intro w1 H1 D)
 have hh:AE w1 w.heap.size 5 (AF F4):=by rw [<-gK];exact AB H1
 have hb:Bw w w1:=HB.trans (Aa D (zx _) sI);obtain ⟨c7,c9⟩:∃x,w1.cell? (xK w.heap.size 16)=some (.int .u8 x):=⟨_,hh.cell (AN F4 16 dz)⟩;have a6:=hh.frozen 16;obtain ⟨c1,c8⟩:∃x,w1.cell? (xK w.heap.size 18)=some (.int .u8 x):=⟨_,hh.cell (AN F4 18 dz)⟩;have c4:=hh.frozen 18;obtain ⟨a3,d0⟩:∃x,w1.cell? (xK w.heap.size 20)=some (.int .u8 x):=⟨_,hh.cell (AN F4 20 dz)⟩;have b7:=hh.frozen 20;obtain ⟨b8,T⟩:∃x,w1.cell? (xK w.heap.size 25)=some (.int .u8 x):=⟨_,hh.cell (AN F4 25 dz)⟩;have a1:=hh.frozen 25;obtain ⟨c0,Y⟩:∃x,w1.cell? (xK w.heap.size 32)=some (.int .u8 x):=⟨_,hh.cell (AN F4 32 dz)⟩;have U:=hh.frozen 32;obtain ⟨a2,a7⟩:∃x,w1.cell? (xK w.heap.size 52)=some (.int .u8 x):=⟨_,hh.cell (AN F4 52 dz)⟩;have N:=hh.frozen 52
 obtain ⟨b6,a4⟩:∃x,w1.cell? (xK w.heap.size 54)=some (.int .u8 x):=⟨_,hh.cell (AN F4 54 dz)⟩;have a5:=hh.frozen 54;obtain ⟨R,c6⟩:∃x,w1.cell? (xK w.heap.size 56)=some (.int .u8 x):=⟨_,hh.cell (AN F4 56 dz)⟩;have a9:=hh.frozen 56;obtain ⟨O,c2⟩:∃x,w1.cell? (xK w.heap.size 64)=some (.int .u8 x):=⟨_,hh.cell (AN F4 64 dz)⟩;have V:=hh.frozen 64;obtain ⟨b5,b0⟩:∃x,w1.cell? (xK w.heap.size 68)=some (.int .u8 x):=⟨_,hh.cell (AN F4 68 dz)⟩;have X:=hh.frozen 68;obtain ⟨b2,c5⟩:∃x,w1.cell? (xK w.heap.size 73)=some (.int .u8 x):=⟨_,hh.cell (AN F4 73 dz)⟩;have b3:=hh.frozen 73;obtain ⟨a8,c3⟩:∃x,w1.cell? (xK w.heap.size 81)=some (.int .u8 x):=⟨_,hh.cell (AN F4 81 dz)⟩;have b4:=hh.frozen 81;obtain ⟨b1,a0⟩:∃x,w1.cell? (xK w.heap.size 96)=some (.int .u8 x):=⟨_,hh.cell (AN F4 96 dz)⟩;have b9:=hh.frozen 96
 obtain ⟨J,E⟩:∃x,w1.cell? (xK w.heap.size 104)=some (.int .u8 x):=⟨_,hh.cell (AN F4 104 dz)⟩;have F:=hh.frozen 104;obtain ⟨M,H⟩:∃x,w1.cell? (xK w.heap.size 256)=some (.int .u8 x):=⟨_,hh.cell (AN F4 256 dz)⟩;have G:=hh.frozen 256
 have HH:=AC (show AE _ w.heap.size 5 (AF D9) from by
  have h:=(((((((((((((((hh.set 16 (.int .u8 2)).set 18 (.int .u8 243)).set 20 (.int .u8 1)).set 25 (.int .u8 1)).set 32 (.int .u8 64)).set 52 (.int .u8 64)).set 54 (.int .u8 56)).set 56 (.int .u8 1)).set 64 (.int .u8 1)).set 68 (.int .u8 5)).set 73 (.int .u8 1)).set 81 (.int .u8 1)).set 96 (.int .u8 4)).set 104 (.int .u8 4)).set 256 (.int .u8 22));simp only [Cz] at h
  exact h)
 have I:=AC (((((((((((((((hb.setCell (p:=(xK w.heap.size 16)) (zx _) (.int .u8 2)).setCell (p:=(xK w.heap.size 18)) (zx _) (.int .u8 243)).setCell (p:=(xK w.heap.size 20)) (zx _) (.int .u8 1)).setCell (p:=(xK w.heap.size 25)) (zx _) (.int .u8 1)).setCell (p:=(xK w.heap.size 32)) (zx _) (.int .u8 64)).setCell (p:=(xK w.heap.size 52)) (zx _) (.int .u8 64)).setCell (p:=(xK w.heap.size 54)) (zx _) (.int .u8 56)).setCell (p:=(xK w.heap.size 56)) (zx _) (.int .u8 1)).setCell (p:=(xK w.heap.size 64)) (zx _) (.int .u8 1)).setCell (p:=(xK w.heap.size 68)) (zx _) (.int .u8 5)).setCell (p:=(xK w.heap.size 73)) (zx _) (.int .u8 1)).setCell (p:=(xK w.heap.size 81)) (zx _) (.int .u8 1)).setCell (p:=(xK w.heap.size 96)) (zx _) (.int .u8 4)).setCell (p:=(xK w.heap.size 104)) (zx _) (.int .u8 4)).setCell (p:=(xK w.heap.size 256)) (zx _) (.int .u8 22))
 clear hh hb H1 D HZ HB L;go_wp2;go_ret;exact ⟨rfl,AB HH,AB I⟩
section
open ChangeShapes WideShapes ChangeAt
def own:ownKnob prog.godebug=none:=kf
def cO:laidOutB prog=true:=kf
def Tryz.et:Tryz.prog.globalNamed "errors.errorType" =some 0:=kf
def Tryz.rt:(Tryz.prog.cutTypes.find? (·.1== "internal/reflectlite.rtype")).map (·.2)=some 204:=kf
def Tryz.oneRow:((List.range 610).filter λt=>Tryz.prog.rowNamed t [101,114,114,111,114])=[33]:=kf
def Tryz.size:Tryz.prog.types.size=610:=kf
def gU {W:World} {l:List (String×DataW Unit)} (h:handlesMet prog l W) (hm:("errors.errorType",Rows.laid_errors_errorType)∈l):W.cell? (xK 0 0)=some (.iface 204 (.agg #[qP 6 33])):=by
 obtain ⟨name,u,ty,e1,e2,e3,e4,e5⟩:=h _ hm;have en:name=[101,114,114,111,114]:=(zr e1).symm;subst en;obtain rfl:=zr (Tryz.rt.symm.trans e2);have hm:ty∈(List.range 610).filter λt=>prog.rowNamed t [101,114,114,111,114]:=vk.2 ⟨zf.2 (by rw [<-Tryz.size];exact e3),e4⟩;rw [Tryz.oneRow] at hm;obtain rfl:=qh.1 hm;have hh:typeHandle prog 33= qP 6 33:=kf;rw [hh] at e5;simpa using World.var?_cell Tryz.et e5 0
end
end Go.Proofs.YtpcjkidgohpeoaaGreatDoor
