import Derived.Test.YtpcjkidgohpeoaaGreatDoorG13
import Derived.Test.YtpcjkidgohpeoaaGreatDoorG10
import Derived.Maps.OwnSet
set_option maxRecDepth 100000
set_option maxHeartbeats 8000000
set_option linter.all false
namespace Go.Proofs.YtpcjkidgohpeoaaGreatDoor
open RowKit Maps Proofs.Tryz
variable {p:PK} {s name:ByteArray} {v:Value} {w w' c:World} {m n i B am b nb:Nat} {f:ByteArray->Option Nat} {NB MB:List Nat} {d li lb used:Int} {V vs:List Value} {l:List ByteArray} {a:Act} {t:TypeId} {P:Program} {ops:Array Oper} {S:World->Prop} {o:Oper} {K:Act->World->Prop} {Q:Exit->Act->World->Prop} {E:Prop} {r:Option Nat} {lz:Bool} {oc:Int->Int} (tb ab:Nat)
structure Ct (lz:Bool) (p:PK):Prop where
 ids:∀x∈p.xs,1<=x.id/\x.id<=p.last
 root:∃x∈p.xs,x.id=1/\x.dir=true
 last:1<=p.last
 incr:p.xs.Pairwise (λx y=>x.id<y.id)
 names:∀x∈p.xs,x.parent≠0->Ba x.name=true
 kids:∀x∈p.xs,∀y∈p.xs,x.parent=y.parent->x.parent≠0->x.name.toList=y.name.toList->x.id=y.id
 parents:∀x∈p.xs,x.parent≠0->∃y∈p.xs,y.id=x.parent/\y.dir=true
 root1:∀x∈p.xs,x.parent=0->x.id=1/\x.name=ByteArray.empty\/lz=true/\x.dir=false/\Ba x.name=true
 down:∀x∈p.xs,0<=x.parent/\x.parent<x.id
 len:p.cs.length=p.xs.length
 bare:∀(i:Nat) (x:Ino) (c:List Int),p.xs[i]? =some x->p.cs[i]? =some c->x.dir=true->c=[]
abbrev EX (p:PK):Prop:=Ct false p
def Ct.root1s (h:Ct false p) (x:Ino) (hx:x∈p.xs) (hp:x.parent=0):x.id=1/\x.name=ByteArray.empty:=by
 rcases h.root1 x hx hp with q|⟨q,_⟩
 ·exact q
 ·cases q
def V6 (h:Ba s=true):s.size<=14:=by
 unfold Ba at h;simp only [ug,rh] at h;exact h.1.1.1.2
def Ct.tree (h:Ct lz p):MZ p.xs:=by
 refine ⟨λx hx=>(h.down x hx).2,λx hx hp=> ?_,λx hx=> ?_⟩
 ·obtain ⟨y,hy,he,_⟩:=h.parents x hx om;exact ⟨y,hy,he⟩
 ·by_cases hp:x.parent=0
  ·rcases h.root1 x hx hp with q|q
   ·rw [q.2];decide
   ·exact V6 q.2.2
  ·exact V6 (h.names x hx hp)
def dr (lp lf lo li lb:Int):Ct lz (CP lp lf lo li lb):=by
 have hm:∀x∈(CP lp lf lo li lb).xs,x=Go.Proofs.YtpcjkidgohpeoaaGreatDoor.root:=λx hx=>by simpa [CP] using hx
 refine ⟨λx hx=> ?_,⟨Go.Proofs.YtpcjkidgohpeoaaGreatDoor.root,by simp [CP],rfl,rfl⟩,si 1,by simp [CP],λx hx hp=> ?_,λx hx y hy _ hp _=> ?_,λx hx hp=> ?_,λx hx _=> ?_,λx hx=> ?_,rfl,λi x c hx hc _=> ?_⟩
 ·obtain rfl:=hm x hx;exact ⟨si 1,si 1⟩
 ·obtain rfl:=hm x hx;exact absurd rfl hp
 ·obtain rfl:=hm x hx;obtain rfl:=hm y hy;rfl
 ·obtain rfl:=hm x hx;exact absurd rfl hp
 ·obtain rfl:=hm x hx;exact .inl ⟨rfl,rfl⟩
 ·obtain rfl:=hm x hx;exact ⟨si 0,show (0:Int)<1 by decide⟩
 ·match i,hc with
  |0,hc=>
    have:[]=c:=by simpa [CP] using hc
    exact this.symm
  |(m+1),hc=>simp [CP] at hc
def Lf {xs:List Ino}:∀(l:List ByteArray) (dir:Int),l≠[]->(CI xs dir l).e=0->(CI xs dir l).name∈l/\(CI xs dir l).n=Ax xs (CI xs dir l).dir (CI xs dir l).name/\((CI xs dir l).dir=dir\/∃y∈xs,y.id=(CI xs dir l).dir/\y.dir=true)
 |[],dir,h,_=>absurd rfl h
 |[a],dir,_,_=>⟨by simp [CI],rfl,.inl rfl⟩
 |a::b::r,dir,_,h0=>by
  unfold CI at h0 ⊢;split at h0
  ·simp [C8] at h0
  ·rename_i h1
   rw [vz h1];split at h0
   ·rename_i h2
    rw [vu h2];obtain ⟨x1,x2,x3⟩:=Lf (b::r) (Ax xs dir a) sI h0;refine ⟨ut _ x1,x2,.inr ?_⟩;rcases x3 with x3|x3
    ·rw [x3];unfold Ce at h2
     cases hf:xs.find? (λx=>x.id==Ax xs dir a) with
     |none=>rw [hf] at h2;cases h2
     |some y=>
      rw [hf] at h2;exact ⟨y,yk hf,by have:=qz hf;simpa using this,h2⟩
    ·exact x3
   ·simp [C8] at h0
def V7 {xs:List Ino} (h0:(AH xs s).e=0) (hn:(AH xs s).n=0):Ba (AH xs s).name=true/\Ax xs (AH xs s).dir (AH xs s).name=0/\((AH xs s).dir=1\/∃y∈xs,y.id=(AH xs s).dir/\y.dir=true):=by
 unfold AH at h0 hn ⊢;split at h0
 ·simp [C8] at h0
 ·rename_i heq
  rw [heq] at hn;exact absurd hn (show ¬(1:Int)=0 by decide)
 ·rename_i a r heq
  rw [heq] at hn;obtain ⟨x1,x2,x3⟩:=Lf (a::r) 1 sI h0;refine ⟨?_,by rw [<-x2];exact hn,x3⟩
  have C:∀m∈a::r,Ba m=true:=by
   unfold Al at heq;split at heq
   ·cases heq
   ·split at heq
    ·cases heq
    ·split at heq
     ·rename_i ha
      rw [<-zr heq];exact za.1 ha
     ·cases heq
  exact C _ x1
def Qk {xs:List Ino} {dir:Int} (C:∀x∈xs,1<=x.id) (h:Ax xs dir name=0):∀x∈xs,BD dir name x=false:=by
 intro x hx;unfold Ax at h
 cases hf:xs.find? (BD dir name) with
 |none=>
  have:=xm.1 hf x hx
  simpa using this
 |some y=>
  rw [hf] at h;have:=C y (yk hf);have h':y.id=0:=h;omega
def Ct.add (h:Ct lz p) (dir:Int) (name:ByteArray) (is:Bool) (hn:Ba name=true) (hc:Ax p.xs dir name=0) (hd:dir=1\/∃y∈p.xs,y.id=dir/\y.dir=true):Ct lz (p.add dir name is):=by
 have H:=Qk (λx hx=>(h.ids x hx).1) hc
 obtain ⟨d,I,O,J⟩:∃y∈p.xs,y.id=dir/\y.dir=true:=by
  rcases hd with rfl|hd
  ·obtain ⟨x,hx,h1,h2⟩:=h.root;exact ⟨x,hx,h1,h2⟩
  ·exact hd
 have R:=h.ids d I
 have C:∀x∈(p.add dir name is).xs,x∈p.xs\/x=Bq (p.last+1) dir name is:=λx hx=>by
  have:x∈p.xs++[Bq (p.last+1) dir name is]:=hx;simpa using this
 have hl:=h.last;refine ⟨λx hx=> ?_,?_,show 1<=p.last+1 by omega,?_,λx hx hp=> ?_,λx hx y hy hp N G=> ?_,λx hx hp=> ?_,λx hx hp=> ?_,λx hx=> ?_,?_,λi x c hx M L=> ?_⟩
 ·show 1<=x.id/\x.id<=p.last+1;rcases C x hx with h1|rfl
  ·have:=h.ids x h1;omega
  ·exact ⟨show 1<=p.last+1 by omega,si _⟩
 ·obtain ⟨x,hx,h1,h2⟩:=h.root;exact ⟨x,yn _ hx,h1,h2⟩
 ·show (p.xs++[Bq (p.last+1) dir name is]).Pairwise _;rw [ud];refine ⟨h.incr,sI,λx hx y hy=> ?_⟩;have e:y=Bq (p.last+1) dir name is:=sU hy;subst e;have:=h.ids x hx;show x.id<p.last+1;omega
 ·rcases C x hx with h1|rfl
  ·exact h.names x h1 hp
  ·exact hn
 ·rcases C x hx with h1|rfl<;>rcases C y hy with h2|rfl
  ·exact h.kids x h1 y h2 hp N G
  ·exfalso;have:=H x h1;have e1:x.parent=dir:=hp;have e2:x.name.toList=name.toList:=G;simp [BD,e1,e2] at this
  ·exfalso;have:=H y h2;have e1:dir=y.parent:=hp;have e2:name.toList=y.name.toList:=G;simp [BD,<-e1,<-e2] at this
  ·rfl
 ·rcases C x hx with h1|rfl
  ·obtain ⟨y,hy,e1,e2⟩:=h.parents x h1 hp;exact ⟨y,yn _ hy,e1,e2⟩
  ·exact ⟨d,yn _ I,O,J⟩
 ·rcases C x hx with h1|rfl
  ·exact h.root1 x h1 hp
  ·have e:dir=0:=hp;omega
 ·rcases C x hx with h1|rfl
  ·exact h.down x h1
  ·show 0<=dir/\dir<p.last+1;omega
 ·show (p.cs++[[]]).length=(p.xs++[Bq (p.last+1) dir name is]).length;simp [h.len]
 ·have F:(p.xs++[Bq (p.last+1) dir name is])[i]? =some x:=hx;have D:(p.cs++[[]])[i]? =some c:=M;rw [yq] at F D;rw [h.len] at D;split at F
  ·rename_i hi
   rw [vu hi] at D;exact h.bare i x c F D L
  ·rename_i hi
   rw [vz hi] at D;have hm:=zv D;simpa using hm
def Ct.mkdir (h:Ct lz p) (s:ByteArray):Ct lz (p.mkdir s).2:=by
 unfold PK.mkdir;split
 ·exact h
 ·rename_i h0
  split
  ·exact h
  ·rename_i h1
   split
   ·exact h
   ·have D:(AH p.xs s).e=0:=tf h0;have C:(AH p.xs s).n=0:=tf h1;obtain ⟨a,b,c⟩:=V7 D C;exact h.add _ _ _ a b c
def Ct.opened (h:Ct lz p) (s:ByteArray) (h0:(AH p.xs s).e=0):Ct lz (p.opened s).1:=by
 unfold PK.opened;split
 ·rename_i h1
  obtain ⟨a,b,c⟩:=V7 h0 h1;exact h.add _ _ _ a b c
 ·exact h
def Ct.cs {p:PK} (h:Ct lz p) {cs:List (List Int)} (hl:cs.length=p.cs.length) (hb:∀(i:Nat) (x:Ino) (c:List Int),p.xs[i]? =some x->cs[i]? =some c->x.dir=true->c=[]):Ct lz {p with cs:=cs}:=
 ⟨h.ids,h.root,h.last,h.incr,h.names,h.kids,h.parents,h.root1,h.down,hl.trans h.len,hb⟩
def Ct.file (h:Ct lz p) (s:ByteArray) (B:List Int) (hc:p.fileCode s B=0):Ct lz (p.fileOut s B):=by
 unfold PK.fileCode at hc;split at hc
 ·rename_i h1;exact absurd hc h1
 rename_i h1
 have h0:(AH p.xs s).e=0:=tf h1;split at hc
 ·exact absurd hc (show ¬(12:Int)=0 by decide)
 split at hc
 ·exact absurd hc (show ¬(11:Int)=0 by decide)
 rename_i hd
 have ho:=h.opened s h0;unfold PK.fileOut;split
 ·exact ho
 ·refine ho.cs sI (λi x c hx C F=> ?_);rw [yv] at C;split at C
  ·rename_i hi
   exfalso;apply hd;split at C
   ·
    rename_i hlt
    have D:∃y,(p.opened s).1.xs.find? (λz=>z.id==(p.opened s).2)=some y/\∃K:Nat,BO (p.opened s).1.xs (p.opened s).2=K/\(p.opened s).1.xs[K]? =some y:=by
     cases hf:(p.opened s).1.xs.find? (λz=>z.id==(p.opened s).2) with
     |some y=>obtain ⟨K,k1,k2⟩:=Fo hf;exact ⟨y,rfl,K,k1,k2⟩
     |none=>
      exfalso;have G:=xm.1 hf
      have I:∃z∈(p.opened s).1.xs,z.id=(p.opened s).2:=by
       unfold PK.opened;split
       ·exact ⟨Bq (p.last+1) (AH p.xs s).dir (AH p.xs s).name false,by simp [PK.add],rfl⟩
       ·rename_i hne
        unfold AH at h0 hne ⊢;split at h0
        ·simp [C8] at h0
        ·obtain ⟨z,hz,e,_⟩:=h.root;exact ⟨z,hz,e⟩
        ·rename_i a r heq
         rw [heq] at hne;exact Pu (a::r) 1 h0 hne
      obtain ⟨z,hz,e⟩:=I;have:=G z hz;simp [e] at this
    obtain ⟨y,hy,K,hK,J⟩:=D;rw [hK] at hi;have H:K=i:=sU hi;subst H;rw [J] at hx;obtain rfl:=zr hx;unfold Ce;rw [hy];exact F
   ·cases C
  ·exact ho.bare i x c hx C F
def Ct.puts {p:PK}:∀(FZ:List AQ) {p:PK},Ct lz p->Ct lz (p.puts FZ).2
 |[],p,h=>h
 |f::r,p,h=>by
  unfold PK.puts;split
  ·exact h
  ·rename_i hc
   have C:(p.put f).1=0:=tf hc;refine Ct.puts (p:=p) r ?_;unfold PK.put at C ⊢;split at C
   ·rename_i hd
    rw [vu hd];exact h.mkdir f.path
   ·rename_i hd
    rw [vz hd];exact h.file f.path f.bytes C
def V8 (lp lf lo li lb:Int) (FZ:List AQ):EX ((CP lp lf lo li lb).puts FZ).2:=Ct.puts (p:=CP lp lf lo li lb) FZ (dr lp lf lo li lb)
def Bp:Value->Option (DataW Unit×List MemPlace)
 | .pointer none=>some (.nil,[])
 | .pointer (some ⟨b,0,none⟩)=>some (.lit (.int .i64 b),[])
 |_=>none
def DT:Option Nat->DataW Unit
 |some b=> .lit (.int .i64 b)
 |none=> .nil
def BF:Option Nat->Value
 |some b=> qP b 0
 |none=> .pointer none
def OU {o:Option Nat} {ps:List MemPlace} (h:Bp v=some (DT o,ps)):v=BF o:=by
 unfold Bp at h;split at h
 ·cases o with
  |none=>rfl
  |some b=>simp [DT] at h
 ·rename_i b
  cases o with
  |none=>simp [DT] at h
  |some c=>
   simp [DT] at h;have e:b=c:=om;subst e;rfl
 ·cases h
def nc (D:DataW Unit) (f:ByteArray->Option Nat):Prop:=∀kl,Maps.has D kl=true->∃(s:ByteArray) (b:Nat),kl= .string s.data.toList/\f s=some b
def Aq (w:World) (m n:Nat) (f:ByteArray->Option Nat):Prop:=
 ∃D:DataW Unit,w.ownsMap prog 9 Bp m n D/\(∀s:ByteArray,D.atKey (.string s.data.toList) .nil=DT (f s))/\nc D f
def Jy:Keyed prog 9:=string_keyed underlying9
def lh (w:World):(zeroValue 170).run prog w= .ok (.pointer none) w:=kf
def Aq.look (h:Aq w m n f) (s:ByteArray) (hs:s.size<=maxLen):(Instr.lookup 255 (.map (some m)) (.string s) false).run prog w= .ok (BF (f s)) w:=by
 obtain ⟨D,hD,hf,_⟩:=h;obtain ⟨v,ps,C,hv⟩:=hD.lookup Jy underlying255 (lh w) (show Bp (.pointer none)=some (.nil,[]) from rfl) (Go.WideMaps.keyOf_string_mk underlying9 hs);rw [hf s] at hv;rw [<-OU hv];exact C
def Aq.kept {row:Option Nat} (h:Aq w m n f) (hg:w.grownBy w' row) (C:some m≠row):Aq w' m n f:=by
 obtain ⟨D,hD,hf⟩:=h;exact ⟨D,hD.kept hg C,hf⟩
def Eg (xs:List Ino) (NB:List Nat) (d:Int) (name:ByteArray):Option Nat:=match xs.findIdx? (BD d name) with|some i=>NB[i]? |none=>none
def Ino.lost (x:Ino):Prop:=x.parent=0/\x.id≠1
abbrev oc0:Int->Int:=λ_=>0
structure Bf (w:World) (B tb ab am:Nat) (li lb used:Int) (xs:List Ino) (NB MB:List Nat) (V:List Value) (oc:Int->Int):Prop where
 tree:AE w tb 173 [qP ab 0,iV xs.length,iV li,iV used,iV lb]
 above:AE w ab 257 [.string ⟨#[]⟩,.bool true,sN,.map (some am),iV 0]
 amap:Aq w am 1 (λs=>if s.data.toList=[] then NB[0]? else none)
 len:NB.length=xs.length/\MB.length=xs.length
 node:∀(i:Nat) (x:Ino) (b m:Nat),xs[i]? =some x->NB[i]? =some b->MB[i]? =some m->∃qn v mv,AE w b 257 [.string qn,.bool x.dir,v,mv,iV (oc x.id)]/\(x.dir=true->mv= .map (some m)/\Aq w m xs.length (Eg xs NB x.id))/\V[i]? =some v/\(x.dir=false->mv= .map none)/\(qn.size=0↔x.lost)
 root:xs≠[]->∃x,xs[0]? =some x/\x.id=1/\x.dir=true
 vlen:V.length=xs.length
 apart:MB.Nodup/\am∉MB/\NB.Nodup/\ab∉NB
 low:B<=tb/\B<=ab/\B<=am/\(∀b∈NB,B<=b)/\∀m∈MB,B<=m/\m<w.heap.size
def UP (xs:List Ino) (NB:List Nat) (id:Int) (b:Nat):Prop:=∃(i:Nat) (x:Ino),xs[i]? =some x/\x.id=id/\NB[i]? =some b
def Ma {xs:List Ino} (hl:NB.length=xs.length) (h:Ax xs d name≠0):∃(i:Nat) (x:Ino) (b:Nat),xs[i]? =some x/\x.id=Ax xs d name/\NB[i]? =some b/\Eg xs NB d name=some b:=by
 unfold Ax at h ⊢
 cases hf:xs.find? (BD d name) with
 |none=>rw [hf] at h;exact absurd rfl h
 |some x=>
  obtain ⟨he,i,hi,hx,D⟩:=tm.1 hf
  have F:xs.findIdx? (BD d name)=some i:=by
   rw [uo];exact ⟨hi,by rw [hx];exact he,λj hj=>by simpa using D j hj⟩
  have C:i<NB.length:=om;refine ⟨i,x,NB[i],by rw [zz hi,hx],rfl,zz C,?_⟩;unfold Eg;rw [F];exact zz C
def Ql {xs:List Ino} (D:∀x∈xs,1<=x.id) (h:Ax xs d name=0):Eg xs NB d name=none:=by
 have C:=Qk D h;unfold Eg
 cases hf:xs.findIdx? (BD d name) with
 |none=>rfl
 |some i=>
  obtain ⟨hi,he,_⟩:=uo.1 hf;rw [C _ (rp hi)] at he;cases he
def Ga {xs:List Ino} {x:Ino} (D:xs.Pairwise (λx y=>x.id<y.id)) (hx:xs[i]? =some x):Ce xs x.id=x.dir:=by
 unfold Ce
 cases hf:xs.find? (λy=>y.id==x.id) with
 |none=>
  have:=xm.1 hf x (zv hx)
  simp at this
 |some y=>
  obtain ⟨he,j,hj,hy,_⟩:=tm.1 hf;have G:y.id=x.id:=sU he;obtain ⟨hi,C⟩:=zy.1 hx;have hp:=vd.1 D
  have F:i=j:=by
   rcases rf i j with h|h|h
   ·have:=hp i j hi hj h;rw [C,hy] at this;omega
   ·exact h
   ·have:=hp j i hj hi h;rw [C,hy] at this;omega
  subst F;rw [<-C,<-hy]
def Jz (e:Int):Ending:= .returned (.tuple #[.agg #[.pointer none,.string ByteArray.empty,.string ByteArray.empty],.iface 40 (iV e)])
def Mb (b:Nat) (name pth:ByteArray):Ending:= .returned (.tuple #[.agg #[qP b 0,.string name,.string pth],.nilIface])
def UQ (xs:List Ino) (NB:List Nat) (ab:Nat) (s:ByteArray) (b:Nat) (name:ByteArray):Prop:=
 Al s=some []/\b=ab/\name=ByteArray.empty\/(∃a r,Al s=some (a::r))/\UP xs NB (AH xs s).dir b/\Ce xs (AH xs s).dir=true/\name=(AH xs s).name
def Y4 (xs:List Ino) (NB:List Nat) (ab:Nat) (s:ByteArray) (w:World) (e:Ending) (w':World):Prop:=
 Bw w w'/\((AH xs s).e≠0/\e=Jz (AH xs s).e\/(AH xs s).e=0/\∃b name,UQ xs NB ab s b name/\e=Mb b name s)
def Bf.below {tb ab:Nat} {xs:List Ino} (h:Bf w B tb ab am li lb used xs NB MB V oc) (hb:Bw w w'):Bf w' B tb ab am li lb used xs NB MB V oc:=by
 have hg:w.grownBy w' none:=⟨hb.os,hb.tape,hb.output,hb.size,λk hk _=>hb.block k hk⟩;refine ⟨h.tree.grown hg sI,h.above.grown hg sI,h.amap.kept hg sI,h.len,λi x b m hx hb hm=> ?_,h.root,h.vlen,h.apart,h.low.1,h.low.2.1,h.low.2.2.1,h.low.2.2.2.1,λm hm=>⟨(h.low.2.2.2.2 m hm).1,o2 (h.low.2.2.2.2 m hm).2 hb.size⟩⟩;obtain ⟨qn,v,mv,h1,h2,h3⟩:=h.node i x b m hx hb hm;exact ⟨qn,v,mv,h1.grown hg sI,λhd=>⟨(h2 hd).1,(h2 hd).2.kept hg sI⟩,h3⟩
def V9 (h:Al s=some l) {a:ByteArray} (ha:a∈l):a.size<=maxLen:=by
 unfold Al at h;split at h
 ·cases h
 ·split at h
  ·obtain rfl:=zr h;simp at ha
  ·split at h
   ·rename_i hall
    rw [<-zr h] at ha;have:=za.1 hall a ha;unfold Ba at this;simp only [ug,rh] at this;have:=this.1.1.1.2;unfold maxLen;omega
   ·cases h
def Gs {W:World} {x y z:Value} (h:AE W b t [x,y,z]) (u v q:Value):(((W.setCell (xK b 0) u).setCell (xK b 1) v).setCell (xK b 2) q).cell? (xK b 0)=some u/\(((W.setCell (xK b 0) u).setCell (xK b 1) v).setCell (xK b 2) q).cell? (xK b 1)=some v/\(((W.setCell (xK b 0) u).setCell (xK b 1) v).setCell (xK b 2) q).cell? (xK b 2)=some q:=by
 have h2:=((h.set 0 u).set 1 v).set 2 q;exact ⟨h2.cell (j:=0) rfl,h2.cell (j:=1) rfl,h2.cell (j:=2) rfl⟩
def Hx {w1:World} (h:Bw w w1) (u v q:Value):Bw w (((w1.setCell (xK w.heap.size 0) u).setCell (xK w.heap.size 1) v).setCell (xK w.heap.size 2) q):=((h.setCell (p:=(xK w.heap.size 0)) (zx _) u).setCell (p:=(xK w.heap.size 1)) (zx _) v).setCell (p:=(xK w.heap.size 2)) (zx _) q
def Gt (B tb ab am:Nat) (li lb used:Int) (xs:List Ino) (NB MB:List Nat) (V:List Value) (s:ByteArray) (m:Int) (w:World) (hr:Bf w B tb ab am li lb used xs NB MB V oc) (c5:Al s≠some []->xs≠[]) (d3:∀x∈xs,1<=x.id) (b1:xs.Pairwise (λx y=>x.id<y.id)) (hs:s.size<=maxLen) (hm:cE w 3 0 (iV m)) (f4:3<w.heap.size):
  cT 66 #[qP tb 0,.string s] w (Y4 xs NB ab s w):=by
 obtain ⟨W0,b7⟩:=xE (w.alloc (Obj.cells #[.pointer none,.string ⟨#[]⟩,.string ⟨#[]⟩] 176));have c3:Bw w W0:=by rw [b7];exact bA
 have d6:AE W0 w.heap.size 176 [.pointer none,.string ⟨#[]⟩,.string ⟨#[]⟩]:=by rw [b7];exact AE.new w 176 _
 have c2:=AC (V3 s m W0 hs ((c3.cell (p:=(xK 3 0)) f4).trans hm));obtain ⟨HR,d9,f5⟩:=H3 hr d3 c5;clear c5;obtain ⟨X,b6,b3,f6⟩:=H4 b1 c3 d6 b7;clear hr d3 b1 c3 d6 b7 hm;go_enter func66,ntmps66
 go_upto_region 1 with fail
 rw [<-AB f6]
 go_wp2_with fail
 refine c2.mono ?_;rintro e w1 ⟨a6,(⟨c6,rfl⟩|⟨l,hl,c8,rfl,b0⟩)⟩
 ·have M:=b3.below a6 b3.lt;have x0:=M.cell (j:=0) rfl;have x1:=M.cell (j:=1) rfl;have x2:=M.cell (j:=2) rfl;have f0:=M.frozen 0;have f1:=M.frozen 1;have f2:=M.frozen 2;have a8:=AC (show AH xs s=C8 8 by unfold AH;rw [c6]);have a5:=AC (b6.trans (a6.mono b6.size));have a7:=M;clear c6 a6 M c2;have hz:=Gs a7 (.pointer none) (.string ⟨#[]⟩) (.string ⟨#[]⟩);have d0:=hz.1;have d1:=hz.2.1;have d2:=hz.2.2;have a0:=AC (Hx a5 (.pointer none) (.string ⟨#[]⟩) (.string ⟨#[]⟩));clear hz a7;go_wp2;exact xh (v:= .tuple #[.agg #[.pointer none,.string ⟨#[]⟩,.string ⟨#[]⟩],.iface 40 (iV 8)]) (by simp [results,results66,go_sem,d0,d1,d2]) rfl ⟨AB a0,.inl (by rw [AB a8];exact ⟨show (8:Int)≠0 by decide,rfl⟩)⟩
 ·have a5:=AC (b6.trans (a6.mono b6.size));have J:=AC (HR.below a5);have M:=b3.below a6 b3.lt;obtain ⟨R,L,HL⟩:=H3 M b0 hl;obtain ⟨RB,d4⟩:=xE W0.heap.size;rw [<-d4] at L ⊢;have t0:cE w1 tb 0 (qP ab 0):=J.tree.cell rfl;have k1:(l.length:Int)+1-1=(l.length:Int):=om;have k2:(0:Int)<=(l.length:Int):=om;clear a6 M b0 hl c2 d4;have q0:cE w1 w.heap.size 0 (.pointer none):=R.cell (j:=0) rfl;have q1:cE w1 w.heap.size 1 (.string ⟨#[]⟩):=R.cell (j:=1) rfl;have q2:cE w1 w.heap.size 2 (.string ⟨#[]⟩):=R.cell (j:=2) rfl;have r0:=R.frozen 0;have r1:=R.frozen 1;have r2:=R.frozen 2;go_wp2
  go_loop [9,33] (λdv i=>∃(k d:Nat),k<=l.length/\i= iV k/\dv= qP d 0/\Hid (k=0/\d=ab\/1<=k/\∃id,UP xs NB id d/\Ce xs id=true/\AH xs s=CI xs id (l.drop (k-1)))) (λ_ i=>l.length-(intOf i).toNat)
  case atStart=>exact ⟨0,ab,om,rfl,rfl,AC (.inl ⟨rfl,rfl⟩)⟩
  case round=>
   obtain ⟨k,d,hk,rfl,rfl,HD⟩:=hrel;by_cases b9:k<l.length
   ·have g0:(0:Int)<=(k:Int):=om;have g2:(k:Int)<(l.length:Int):=om;rcases AB HD with ⟨rfl,rfl⟩|⟨c7,id,⟨i,x,hx,O,hb⟩,I,hw⟩
    ·
     have c0:cE w1 RB 0 (.string ByteArray.empty):=L.cell (j:=0) rfl;obtain ⟨x,hx,O,T⟩:=J.root ((AB f5) (by rw [AB HL];intro h;injection h with h;rw [h] at b9;simp at b9));have U:=(zy.1 hx).1;obtain ⟨b,hb⟩:∃b,NB[0]? =some b:=⟨_,zz (by rw [J.len.1];exact U)⟩;obtain ⟨mm,a3⟩:∃mm,MB[0]? =some mm:=⟨_,zz (by rw [J.len.2];exact U)⟩;have a2:cE w1 d 3 (.map (some am)):=J.above.cell rfl;have Y:=J.amap.look ByteArray.empty dz;rw [vu (show ByteArray.empty.data.toList=[] from rfl),hb] at Y;obtain ⟨qn,v,mv,C,_⟩:=J.node 0 x b mm hx hb a3;rw [T] at C;have n0:w1.cell? (xK b 1)=some (.bool true):=C.cell rfl
     have c4:=AC (show UP xs NB 1 b/\Ce xs 1=true/\AH xs s=CI xs 1 (l.drop (0+1-1)) from by
      refine ⟨⟨0,x,hx,O,hb⟩,?_,?_⟩
      ·have:=Ga X hx;rw [O,T] at this;exact this
      ·unfold AH;rw [AB HL]
       cases l with
       |nil=>simp at b9
       |cons a r=>rfl)
     unfold BF at Y;clear hx O T U hb a3 C;go_wp2
     go_round
     case rel=>exact ⟨1,b,om,rfl,rfl,AC (.inr ⟨zx 1,1,AB c4⟩)⟩
     case measure=>simp [intOf];omega
    ·
     obtain ⟨a,ha⟩:∃a,l[k-1]? =some a:=⟨_,zz om⟩
     have c0:w1.cell? (xK RB k)=some (.string a):=L.cell (by
      rw [show k=(k-1)+1 by omega];show (Cq l)[k-1]? =_
      simp [Cq,ha])
     obtain ⟨a',b',r,d7,b8,a9⟩:=VS (l:=l) (k:=k-1) om;rw [ha] at d7;obtain rfl:=zr d7;rw [show k-1+1=k by omega] at a9;rw [b8] at hw;unfold CI at hw;have U:=(zy.1 hx).1;obtain ⟨mm,a3⟩:∃mm,MB[i]? =some mm:=⟨_,zz (by rw [J.len.2];exact U)⟩;obtain ⟨qn,v,mv,C,H,_⟩:=J.node i x d mm hx hb a3;have T:x.dir=true:=by rw [<-Ga (AB X) hx,O];exact I
     obtain ⟨rfl,D⟩:=H T;rw [O] at D;have n2:cE w1 d 3 (.map (some mm)):=C.cell rfl;have Y:=D.look a (V9 HL (zv ha));by_cases hz:Ax xs id a=0
     ·rw [Ql (AB d9) hz] at Y;unfold BF at Y;rw [vu hz] at hw;have a8:=AC hw;obtain ⟨d0,d1,d2⟩:=Gs R (.pointer none) (.string ⟨#[]⟩) (.string ⟨#[]⟩);have a0:=AC (Hx a5 (.pointer none) (.string ⟨#[]⟩) (.string ⟨#[]⟩));clear hx O hb I hw ha b8 a9 U a3 C H T D hz;go_wp2;exact xh (v:= .tuple #[.agg #[.pointer none,.string ⟨#[]⟩,.string ⟨#[]⟩],.iface 40 (iV 9)]) (by simp [results,results66,go_sem,d0,d1,d2]) rfl ⟨AB a0,.inl (by rw [AB a8];exact ⟨show (9:Int)≠0 by decide,rfl⟩)⟩
     ·obtain ⟨i2,x2,b2,a4,N,b5,Z⟩:=Ma (NB:=NB) J.len.1 hz;rw [Z] at Y;unfold BF at Y;rw [vz hz] at hw;have a1:=(zy.1 a4).1;obtain ⟨m2,c1⟩:∃m2,MB[i2]? =some m2:=⟨_,zz (by rw [J.len.2];exact a1)⟩;obtain ⟨qn,v2,g1,G,_⟩:=J.node i2 x2 b2 m2 a4 b5 c1;have F:=Ga X a4;rw [N] at F;have n0:w1.cell? (xK b2 1)=some (.bool x2.dir):=G.cell rfl
      cases hdd:x2.dir with
      |false=>
       rw [hdd] at n0 F;rw [vz (by rw [F];decide)] at hw;have a8:=AC hw;obtain ⟨d0,d1,d2⟩:=Gs R (.pointer none) (.string ⟨#[]⟩) (.string ⟨#[]⟩);have a0:=AC (Hx a5 (.pointer none) (.string ⟨#[]⟩) (.string ⟨#[]⟩));clear hx O hb I hw ha b8 a9 U a3 C H T D hz a4 N b5 Z a1 c1 G F hdd;go_wp2
       exact xh (v:= .tuple #[.agg #[.pointer none,.string ⟨#[]⟩,.string ⟨#[]⟩],.iface 40 (iV 11)]) (by simp [results,results66,go_sem,d0,d1,d2]) rfl ⟨AB a0,.inl (by rw [AB a8];exact ⟨show (11:Int)≠0 by decide,rfl⟩)⟩
      |true=>
       rw [hdd] at n0 F;rw [vu F,<-a9] at hw;have c4:=AC (show 1<=k+1/\∃id,UP xs NB id b2/\Ce xs id=true/\AH xs s=CI xs id (l.drop (k+1-1)) from ⟨om,Ax xs id a,⟨i2,x2,a4,N,b5⟩,F,hw⟩);clear hx O hb I hw ha b8 a9 U a3 C H T D hz a4 N b5 Z a1 c1 G F hdd;go_wp2
       go_round
       case rel=>exact ⟨k+1,b2,om,by go_num,rfl,AC (.inr c4)⟩
       case measure=>simp [intOf];omega
   ·have f3:k=l.length:=om;subst f3
    obtain ⟨NA,f9,c9⟩:∃NA,w1.cell? (xK RB l.length)=some (.string NA)/\Hid ((AH xs s).e=0/\UQ xs NB ab s d NA):=by
     rcases AB HD with ⟨h0,rfl⟩|⟨c7,id,f7,I,hw⟩
     ·have d8:l=[]:=uz h0;subst d8;refine ⟨ByteArray.empty,L.cell (j:=0) rfl,AC ⟨?_,.inl ⟨AB HL,rfl,rfl⟩⟩⟩;unfold AH;rw [AB HL]
     ·obtain ⟨a,ha⟩:∃a,l[l.length-1]? =some a:=⟨_,zz om⟩
      have f8:l.drop (l.length-1)=[a]:=by
       have d5:l.length-1<l.length:=om;rw [un d5,xw om];rw [zz d5] at ha;rw [zr ha]
      rw [f8] at hw;have b4:AH xs s=⟨id,a,Ax xs id a,0⟩:=hw;refine ⟨a,L.cell ?_,AC ⟨by rw [b4],.inr ⟨?_,by rw [b4];exact f7,by rw [b4];exact I,by rw [b4]⟩⟩⟩
      ·rw [show l.length=(l.length-1)+1 by omega];show (Cq l)[l.length-1]? =_;simp [Cq,ha]
      ·rw [AB HL]
       cases l with
       |nil=>simp at c7
       |cons a r=>exact ⟨a,r,rfl⟩
    obtain ⟨d0,d1,d2⟩:=Gs R (qP d 0) (.string NA) (.string s);have a0:=AC (Hx a5 (qP d 0) (.string NA) (.string s));have k3:(l.length:Int)<(l.length:Int)+1:=om;go_wp2;exact xh (v:= .tuple #[.agg #[qP d 0,.string NA,.string s],.nilIface]) (by simp [results,results66,go_sem,d0,d1,d2]) rfl ⟨AB a0,.inr ⟨c9.1,d,NA,c9.2,rfl⟩⟩
def GP (n li used lb c d:Int) (w:World) (h:AE w tb 173 [qP ab 0,iV n,iV li,iV used,iV lb]) (hn:0<=n/\n<=1000000) (hl:0<=li/\li<=1000000) (hu:0<=used/\used<=1000000) (hb:0<=lb/\lb<=1000000):
  cT 120 #[qP tb 0,iV c,iV d] w λe w'=>e= .returned (.bool (decide (c<=li-n)&&decide (d<=lb-used)))/\w'.heap=w.heap/\Bw w w':=by
 have C:∀w':World,w'.heap=w.heap->∀a,w'.cell? a=w.cell? a:=λw' h a=>by unfold World.cell?;rw [h]
 have R1:=AC (show ∀w':World,w'.heap=w.heap->(Instr.loadAt 3 (qP tb 1)).run prog w'= .ok (iV n) w' from λw' hh=>by
  have c:w'.cell? (xK tb 1)=some (iV n):=by rw [C w' hh];exact h.cell rfl
  clear C h
  go_simp)
 have R2:=AC (show ∀w':World,w'.heap=w.heap->(Instr.loadAt 3 (qP tb 2)).run prog w'= .ok (iV li) w' from λw' hh=>by
  have c:w'.cell? (xK tb 2)=some (iV li):=by rw [C w' hh];exact h.cell rfl
  clear C h
  go_simp)
 have R3:=AC (show ∀w':World,w'.heap=w.heap->(Instr.loadAt 3 (qP tb 3)).run prog w'= .ok (iV used) w' from λw' hh=>by
  have c:w'.cell? (xK tb 3)=some (iV used):=by rw [C w' hh];exact h.cell rfl
  clear C h
  go_simp)
 have R4:=AC (show ∀w':World,w'.heap=w.heap->(Instr.loadAt 3 (qP tb 4)).run prog w'= .ok (iV lb) w' from λw' hh=>by
  have c:w'.cell? (xK tb 4)=some (iV lb):=by rw [C w' hh];exact h.cell rfl
  clear C h
  go_simp)
 have S1:=AC (show ∀w':World,((do eqGuard .sub 3 (.tmp 11) (.tmp 15) (iV li) (iV n);binOp .sub 3 (iV li) (iV n):Sem Value)).run prog w'= .ok (iV (li-n)) w' from λw'=>by
  clear C h;go_simp;rw [yg]
  omega)
 have S2:=AC (show ∀w':World,((do eqGuard .sub 3 (.tmp 23) (.tmp 27) (iV lb) (iV used);binOp .sub 3 (iV lb) (iV used):Sem Value)).run prog w'= .ok (iV (lb-used)) w' from λw'=>by
  clear C h;go_simp;rw [yg]
  omega)
 obtain ⟨x,hx⟩:=xE (li-n);obtain ⟨y,hy⟩:=xE (lb-used);rw [<-hx] at S1 ⊢;rw [<-hy] at S2 ⊢
 have L1:=AC (show ∀w':World,((do eqGuard .leq 3 (.tmp 7) (.tmp 16) (iV c) (iV x);binOp .leq 3 (iV c) (iV x):Sem Value)).run prog w'= .ok (.bool (decide (c<=x))) w' from λw'=>by
  clear C h R1 R2 R3 R4 S1 S2
  go_simp)
 have L2:=AC (show ∀w':World,((do eqGuard .leq 3 (.tmp 19) (.tmp 28) (iV d) (iV y);binOp .leq 3 (iV d) (iV y):Sem Value)).run prog w'= .ok (.bool (decide (d<=y))) w' from λw'=>by
  clear C h R1 R2 R3 R4 S1 S2
  go_simp)
 obtain ⟨p,hp⟩:=xE (decide (c<=x));obtain ⟨q,hq⟩:=xE (decide (d<=y));rw [<-hp] at L1 ⊢;rw [<-hq] at L2 ⊢;clear C h hn hl hu hb hx hy hp hq;go_enter func120,ntmps120;go_wp2;refine Ak ?_;intro A hA;have e0:A.eval (.tmp 0)= qP tb 0:=eH hA;have e1:A.eval (.tmp 1)= iV c:=eH hA;have e2:A.eval (.tmp 2)= iV d:=eH hA;have D:A.tmps.size=31:=eZ hA;have HA:=AC hA;clear hA;refine xf (S:=λw'=>w'.heap=w.heap) kf rfl (λhS=> ?_);refine tq 0 7 rfl (yM (iV c)) hS (tq 1 8 rfl (yM (qP tb 0)) hS (tq 2 9 rfl (yN (xK tb 0)) hS (tq 3 10 rfl (yF (qP tb 0) (qP tb 2)) hS (tq 4 11 rfl (yl R2) hS (tq 5 12 rfl (yM (qP tb 0)) hS ?_)))));refine tq 6 13 rfl (yN (xK tb 0)) hS ?_
 refine tq 7 14 rfl (yF (qP tb 0) (qP tb 1)) hS (tq 8 15 rfl (yl R1) hS (tq 9 16 rfl (yB (iV li) (iV n) (iV x) S1) hS (tq 10 17 rfl (yB (iV c) (iV x) (.bool p) L1) hS (tq 11 18 rfl (yM (.bool p)) hS ?_))))
 cases p with
 |true=>
  refine tq 12 19 rfl (yG (yM (iV d))) hS (tq 13 20 rfl (yG (yM (qP tb 0))) hS (tq 14 21 rfl (yG (yN (xK tb 0))) hS (tq 15 22 rfl (yG (yF (qP tb 0) (qP tb 4))) hS (tq 16 23 rfl (yG (yl R4)) hS (tq 17 24 rfl (yG (yM (qP tb 0))) hS ?_)))));refine tq 18 25 rfl (yG (yN (xK tb 0))) hS (tq 19 26 rfl (yG (yF (qP tb 0) (qP tb 3))) hS (tq 20 27 rfl (yG (yl R3)) hS (tq 21 28 rfl (yG (yB (iV lb) (iV used) (iV y) S2)) hS (tq 22 29 rfl (yG (yB (iV d) (iV y) (.bool q) L2)) hS (tq 23 30 rfl (De rfl _ _ _ rfl true (.bool q) sE ((vu rfl).trans sE)) hS ?_)))));refine tq 24 6 rfl (Bm rfl (v:= .bool q) (λw' _=>by simp only [execOp];simp [Ae,AU,D,e0,e1,e2])) hS ?_
  refine vg kf ?_ _;rw [AB HA];simp only [Act.put,zl,zh,zi];clear R1 R2 R3 R4 S1 S2 L1 L2 HA e0 e1 e2 D hS;go_wp2;go_ret
  exact ⟨rfl,rfl,⟨rfl,rfl,rfl,zx _,λ_ _=>rfl⟩⟩
 |false=>
  refine tq 12 19 rfl yO hS (tq 13 20 rfl yO hS (tq 14 21 rfl yO hS (tq 15 22 rfl yO hS (tq 16 23 rfl yO hS (tq 17 24 rfl yO hS ?_)))));refine tq 18 25 rfl yO hS (tq 19 26 rfl yO hS (tq 20 27 rfl yO hS (tq 21 28 rfl yO hS (tq 22 29 rfl yO hS (tq 23 30 rfl (De rfl _ _ _ rfl false (.bool false) sE (vz dz)) hS ?_)))));refine tq 24 6 rfl (Bm rfl (v:= .bool false) (λw' _=>by simp only [execOp];simp [Ae,AU,D,e0,e1,e2])) hS ?_;refine vg kf ?_ _;rw [AB HA];simp only [Act.put,zl,zh,zi];clear R1 R2 R3 R4 S1 S2 L1 L2 HA e0 e1 e2 D hS;go_wp2;go_ret;exact ⟨rfl,rfl,⟨rfl,rfl,rfl,zx _,λ_ _=>rfl⟩⟩
def Mc (n li used lb:Int) (w:World) (h:AE w tb 173 [qP ab 0,iV n,iV li,iV used,iV lb]) (hn:0<=n/\n<=1000000) (hl:0<=li/\li<=1000000) (hu:0<=used/\used<=lb) (hb:lb<=1000000):
  cT 117 #[qP tb 0] w λe w'=>e= .returned (.bool (decide (li<=n)))/\w'.heap=w.heap/\Bw w w':=by
 have HR:=AC (GP tb ab n li used lb 1 0 w h hn hl ⟨om,om⟩ ⟨om,hb⟩)
 have he:(decide ((1:Int)<=li-n)&&decide ((0:Int)<=lb-used))= !decide (li<=n):=by
  by_cases q:li<=n
  ·rw [ve q,vf om];rfl
  ·rw [vf q,ve om,ve om];rfl
 rw [he] at HR;obtain ⟨q,hq⟩:=xE (decide (li<=n));rw [<-hq] at HR ⊢;clear h hn hl hu hb he hq;go_enter func117,ntmps117
 go_wp2_with fail
 refine HR.mono ?_;rintro e w1 ⟨rfl,C,D⟩;have HW:=AC C;have HB:=AC D;clear C D HR
 cases q with
 |true=>
  go_wp2;go_ret
  exact ⟨rfl,AB HW,AB HB⟩
 |false=>
  go_wp2;go_ret;exact ⟨rfl,AB HW,AB HB⟩
def Aq.heap (h:Aq w m n f) (hh:w'.heap=w.heap):Aq w' m n f:=by
 obtain ⟨D,⟨es,C,hb,F,hs,hD⟩,hf⟩:=h;exact ⟨D,⟨es,C,by rw [hh];exact hb,F,hs,hD⟩,hf⟩
def SO {A:Act} (hg:o.guard=none) (t:TypeId) (x y:Operand) (ho:o.op= .lookup t x y false) (vx vy:Value) (hx:A.eval x=vx) (hy:A.eval y=vy) (v:Value) (C:∀w',S w'->(Instr.lookup t vx vy false).run P w'= .ok v w'):YieldsIf P ops S o v A:=
 Bm hg λw' hS=>by simp only [execOp,ho,hx,hy,uk,C w' hS,ye,sr]
def JI (b m n:Nat) (name H:ByteArray) (f:ByteArray->Option Nat) (w:World) (hn:name.size<=maxLen) (hc:w.cell? (xK b 3)=some (.map (some m))) (hd:Aq w m n f):
  cT 116 #[.agg #[qP b 0,.string name,.string H]] w λe w'=>e= .returned (BF (f name))/\Bw w w':=by
 obtain ⟨W0,G⟩:=xE (w.alloc (Obj.cells #[qP b 0,.string name,.string H] 176));have D:Bw w W0:=by rw [G];exact bA
 have I:AE W0 w.heap.size 176 [qP b 0,.string name,.string H]:=by rw [G];exact AE.new w 176 _
 have L:Aq W0 m n f:=hd.kept (row:=none) ⟨D.os,D.tape,D.output,D.size,λk hk _=>D.block k hk⟩ sI;have J:W0.cell? (xK b 3)=some (.map (some m)):=by rw [D.cell (p:=(xK b 3)) (zu w _ hc)];exact hc
 have C:∀w':World,w'.heap=W0.heap->∀a,w'.cell? a=W0.cell? a:=λw' h a=>by unfold World.cell?;rw [h]
 have R0:=AC (show ∀w':World,w'.heap=W0.heap->(Instr.loadAt 170 (qP w.heap.size 0)).run prog w'= .ok (qP b 0) w' from λw' h=>by
  have c:w'.cell? (xK w.heap.size 0)=some (qP b 0):=by rw [C w' h];exact I.cell rfl
  clear C
  go_simp)
 have R1:=AC (show ∀w':World,w'.heap=W0.heap->(Instr.loadAt 9 (qP w.heap.size 1)).run prog w'= .ok (.string name) w' from λw' h=>by
  have c:w'.cell? (xK w.heap.size 1)=some (.string name):=by rw [C w' h];exact I.cell rfl
  clear C
  go_simp)
 have R2:=AC (show ∀w':World,w'.heap=W0.heap->(Instr.loadAt 255 (qP b 3)).run prog w'= .ok (.map (some m)) w' from λw' h=>by
  have c:w'.cell? (xK b 3)=some (.map (some m)):=by rw [C w' h];exact J
  clear C
  go_simp)
 have R3:Hid (∀w':World,w'.heap=W0.heap->(Instr.lookup 255 (.map (some m)) (.string name) false).run prog w'= .ok (BF (f name)) w'):=λw' h=>(L.heap h).look name hn;obtain ⟨V,hV⟩:=xE (BF (f name));rw [<-hV] at R3 ⊢;have F:=AC D;have N:=AC G;clear hV D I L J C G hc hd;go_enter func116,ntmps116
 go_upto_region 1 with fail
 rw [<-AB N];refine Ak ?_;intro A hA;have e1:A.eval (.tmp 1)= qP w.heap.size 0:=eH hA;have M:A.tmps.size=11:=eZ hA;have HA:=AC hA;clear hA;refine xf (S:=λw'=>w'.heap=W0.heap) kf rfl (λhS=> ?_);refine tq 0 3 rfl (yF (qP w.heap.size 0) (qP w.heap.size 0)) hS (tq 1 4 rfl (yl R0) hS (tq 2 5 rfl (yN (xK b 0)) hS (tq 3 6 rfl (yF (qP b 0) (qP b 3)) hS (tq 4 7 rfl (yl R2) hS (tq 5 8 rfl (yF (qP w.heap.size 0) (qP w.heap.size 1)) hS ?_)))));refine tq 6 9 rfl (yl R1) hS (tq 7 10 rfl (SO rfl _ _ _ rfl (.map (some m)) (.string name) sE sE V R3) hS (tq 8 2 rfl (Bm rfl (v:=V) (λw' _=>by simp only [execOp];simp [Ae,AU,M])) hS ?_))
 refine vg kf ?_ _;rw [AB HA];simp only [Act.put,zl,zh,zi];clear R0 R1 R2 R3 HA e1 M hS;go_wp2;go_ret;exact ⟨rfl,⟨F.os,F.tape,F.output,F.size,F.block⟩⟩
def Md (w:World):cT 64 #[] w λe w'=>e= .returned (qP (w.heap.size+1) 0)/\AE w' (w.heap.size+1) 257 [.string ⟨#[]⟩,.bool true,sN,.map (some w.heap.size),iV 0]/\Aq w' w.heap.size 0 (λ_=>none)/\Bw w w':=by
 have C:= @run_makeMap prog;have HD:=AC (show Aq (w.alloc (.map #[] 0)) w.heap.size 0 (λ_=>none) from ⟨.map [],World.ownsMap_made w _ _ _,λs=>rfl,λkl h=>by cases h⟩);have HB:Hid (Bw w (w.alloc (.map #[] 0))):=bA;go_enter func64,ntmps64;go_wp2;go_ret;refine ⟨rfl,?_,HD.kept (row:=none) (World.grownBy_alloc _ _ _) sI,HB.alloc sI _⟩;have h:=AE.new (w.alloc (.map #[] 0)) 257 [.string ⟨#[]⟩,.bool true,sN,.map (some w.heap.size),iV 0];rwa [show (w.alloc (.map #[] 0)).heap.size=w.heap.size+1 from sI] at h
def OX (s:ByteArray) (w:World) (hs:s.size<=100000):cT 166 #[.string s] w λe w'=>e= .returned (.string s)/\Bw w w':=by
 have H:Hid (cT 207 #[.string s] w λe w'=>e= .returned (.string s)/\Bw w w'):=Go.Proofs.Any.stringslite_Clone na s w om;go_enter func166,ntmps166
 go_wp2_with fail
 refine H.mono ?_;rintro e w1 ⟨rfl,C⟩;have HB:=AC C;clear C H;go_wp2;go_ret;exact ⟨rfl,AB HB⟩
def DH (F:o.guard=none) (f n1:Nat) (t1:TypeId)
  (ho:o.op= .call {callee:= .value (.func f),args:=#[.tmp n1],argTypes:=#[t1]}) (v1:Value) (h1:a.eval (.tmp n1)=v1)
  (he:∀args w,(callFunc f args).run P w= .ok (.enter f args) w) (C:Ending->World->Prop) (r:Value) (hp:∀e w',C e w'->e= .returned r) (hc:Calls P f #[v1] w C) (d:Option Tmp) (hd:o.dst=d)
  (h:∀w',C (.returned r) w'->K (a.put d r) w'):
  if Region.wanted o (yielded ops a.tmps)=true then Oper.wp P o a w K Q else E:=by
 have hw:Region.wanted o (yielded ops a.tmps)=true:=by simp [Region.wanted,F]
 have G:a.tmps[n1]?.getD undef=v1:=by rw [<-h1];simp [go_sem]
 rw [vu hw];subst hd;unfold Oper.wp;simp [execOp,ho,resolve,invoke,G,Result.andThen,go_sem,he];refine hc.mono ?_;intro e w' D;obtain rfl:=hp e w' D;have:=h w' D;simpa [go_sem] using this
def Y7:eN 166:=enters_of func166 kf rfl
def WB (D:o.guard=none) (t:TypeId) (m x v:Operand) (ho:o.op= .mapUpdate t m x v) (vm vx vv:Value) (hm:a.eval m=vm) (hx:a.eval x=vx) (hv:a.eval v=vv) (C:(Instr.mapUpdate t vm vx vv).run P w= .ok () w') (hd:o.dst=none) (h:K a w'):
  if Region.wanted o (yielded ops a.tmps)=true then Oper.wp P o a w K Q else E:=by
 have hw:Region.wanted o (yielded ops a.tmps)=true:=by simp [Region.wanted,D]
 rw [vu hw];unfold Oper.wp execOp;simp only [ho,hm,hx,hv,uk,C,ye,sr];rw [Oper.upon_skip,hd];exact h
def Me {md:Region.Mode} {fuel:Nat} {C:Array Bool} {rs:List Nat} (hi:ops[i]? =some o) (F:o.guard=none) (t:TypeId) (m x v:Operand) (ho:o.op= .mapUpdate t m x v) (vm vx vv:Value) (hm:a.eval m=vm) (hx:a.eval x=vx) (hv:a.eval v=vv) (D:(Instr.mapUpdate t vm vx vv).run P w= .ok () w') (hd:o.dst=none) (hS:S w') (h:wpAnyH P md ops Q S fuel (C.setIfInBounds i true) a w') (hs:AllReadyH P md ops Q S fuel C a w rs):
  AllReadyH P md ops Q S fuel C a w (i::rs):=
 vq hi (λK hK=>WB F t m x v ho vm vx vv hm hx hv D hd (hK.out _ _ hS (λ_=>h))) hs
def lj {t:ByteArray} (h:s.data.toList≠t.data.toList):(Lit.string s.data.toList)≠(Lit.string t.data.toList):=λe=>h (by injection e)
def Aq.put (h:Aq w m n f) (hn:n<maxLen) (name:ByteArray) (hs:name.size<=maxLen) (b:Nat):
  ∃w',(Instr.mapUpdate 255 (.map (some m)) (.string name) (qP b 0)).run prog w= .ok () w'/\Aq w' m (n+1) (λs=>if s.data.toList=name.data.toList then some b else f s)/\w.grownBy w' (some m):=by
 obtain ⟨D,hD,hf,F⟩:=h;have C:=Go.WideMaps.keyOf_string_mk (P:=prog) underlying9 hs;obtain ⟨w',G,I,hg⟩:=hD.update Jy underlying255 hn C (show Bp (qP b 0)=some (.lit (.int .i64 b),[]) from rfl);refine ⟨w',G,⟨_,I,λs=> ?_,λkl H=> ?_⟩,hg⟩
 rotate_left
 ·by_cases e:kl= .string name.data.toList
  ·exact ⟨name,b,e,vu rfl⟩
  ·rw [Maps.has_put_other e] at H;obtain ⟨s,c,h1,h2⟩:=F kl H;refine ⟨s,c,h1,?_⟩;show (if s.data.toList=name.data.toList then some b else f s)=some c;rw [vz (λq=>e (by rw [h1,q])),h2]
 show _=DT (if s.data.toList=name.data.toList then some b else f s);by_cases e:s.data.toList=name.data.toList
 ·rw [vu e,e,Maps.atKey_put_same hD.isMap (Jy.key C)];rfl
 ·rw [vz e,Maps.atKey_put_other (lj e)];exact hf s
def Cy (h:Aq w m n f) (hh:AE w b t vs):b≠m:=by
 intro e;subst e;obtain ⟨D,⟨es,C,hb,_⟩,_⟩:=h;unfold AE at hh;rw [hb] at hh;cases hh
def UV (tb m k ab:Nat) (n li used lb:Int) (f:ByteArray->Option Nat) (name:ByteArray) (b:Nat) (w w':World):Prop:=
 AE w' tb 173 [qP ab 0,iV (n+1),iV li,iV used,iV lb]/\Aq w' m (k+1) (λs=>if s.data.toList=name.data.toList then some b else f s)/\Ao w w' tb m
structure C7 (w w':World) (S:List Nat):Prop where
 os:w'.os=w.os
 tape:w'.tape=w.tape
 output:w'.output=w.output
 size:w.heap.size<=w'.heap.size
 block:∀k,k<w.heap.size->k∉S->w'.heap[k]? =w.heap[k]?
def C7.refl (w:World) (S:List Nat):C7 w w S:=⟨rfl,rfl,rfl,zx _,λ_ _ _=>rfl⟩
def C7.grown {a b:World} {S:List Nat} (h:C7 a b S) (k:b.grownBy c r) (hr:∀x,r=some x->x∈S\/a.heap.size<=x):C7 a c S:=⟨k.os.trans h.os,k.tape.trans h.tape,k.output.trans h.output,zg h.size k.size,λi hi hn=>(k.block i (yz hi h.size) (λe=>by rcases hr i e.symm with q|q;exact hn q;omega)).trans (h.block i hi hn)⟩
def C7.ofK {a:Nat} (h:Ao w w' a b):C7 w w' [a,b]:=⟨h.os,h.tape,h.output,h.size,λk hk hn=>h.block k hk (λe=>hn (by simp [e])) (λe=>hn (by simp [e]))⟩
def C7.below {S:List Nat} (h:C7 w w' S) (hs:∀x∈S,B<=x) (hB:B<=w.heap.size):Below B w w':=⟨h.os,h.tape,h.output,h.size,λk hk=>h.block k om (λe=>o1 (hs k e))⟩
def C7.toK {a b:World} {t:Nat} (h:Bw a b) (k:C7 b c [t,m,n]) (hn:a.heap.size<=n):Ao a c t m:=
 ⟨k.os.trans h.os,k.tape.trans h.tape,k.output.trans h.output,zg h.size k.size,λi hi h1 h2=>(k.block i (o1 h.size) sO).trans (h.block i hi)⟩
def AJ (h:AE w b t vs) (hh:w'.heap[b]? =w.heap[b]?):AE w' b t vs:=by
 unfold AE at h ⊢;rw [hh];exact h
def Ab {a:Nat} {s:TypeId} {us:List Value} (h:AE w a s us) (h':AE w b t vs) (C:s≠t):a≠b:=by
 intro e;subst e;unfold AE at h h';rw [h] at h';injection h' with h';injection h' with _ h';exact C h'
def iZ (tb m k ab:Nat) (n li used lb:Int) (f:ByteArray->Option Nat) (name pth:ByteArray) (b:Nat) (bvs:List Value) (w w':World):Prop:=
 AE w' tb 173 [qP ab 0,iV (n+1),iV li,iV used,iV lb]/\Aq w' m (k+1) (λs=>if s.data.toList=name.data.toList then some b else f s)/\AE w' b 257 (.string pth::bvs)/\C7 w w' [tb,m,b]
def WC (P d m:Nat) (name pth:ByteArray) (w:World):Prop:=w.cell? (xK P 0)=some (qP d 0)/\w.cell? (xK P 1)=some (.string name)/\w.cell? (xK P 2)=some (.string pth)/\w.cell? (xK d 3)=some (.map (some m))
def WC.grown {P d:Nat} {C:ByteArray} (h:WC P d m name C w) (hg:w.grownBy w' r) (h1:some P≠r) (h2:some d≠r):WC P d m name C w':=
 ⟨hg.cell h.1 h1,hg.cell h.2.1 h1,hg.cell h.2.2.1 h1,hg.cell h.2.2.2 h2⟩
def TK (d m k b:Nat) (n li used lb:Int) (f:ByteArray->Option Nat) (name C q0:ByteArray) (X:List Value) (w:World) (ht:AE w tb 173 [qP ab 0,iV n,iV li,iV used,iV lb]) (hn:0<=n/\n<=1000000) (hd:Aq w m k f) (hk:k<=1000000) (tn:TypeId) (b2:List Value) (b5:AE w d tn b2) (b9:b2[3]? =some (.map (some m))) (d7:d≠tb) (a4:AE w b 257 (.string q0::X)) (d4:b≠d) (hs:name.size<=100000) (d6:C.size<=100000):
  cT 118 #[qP tb 0,.agg #[qP d 0,.string name,.string C],qP b 0] w λe w'=>e= .returned (.tuple #[])/\iZ tb m k ab n li used lb f name C b X w w':=by
 have f5:=ht.lt;have f4:=a4.lt;have b3:b≠tb:=Ab a4 ht dz;obtain ⟨W0,G⟩:=xE (w.alloc (Obj.cells #[qP d 0,.string name,.string C] 176));have c9:AE W0 w.heap.size 176 [qP d 0,.string name,.string C]:=by rw [G];exact AE.new w 176 _
 have a2:AE W0 tb 173 [qP ab 0,iV n,iV li,iV used,iV lb]:=by rw [G];exact ht.alloc _
 obtain ⟨W1,F⟩:=xE (W0.setCell (xK tb 1) (iV (n+1)));have c1:cE W0 tb 1 (iV n):=a2.cell rfl;have f1:=a2.frozen 1
 have L:Aq W1 m k f:=by
  rw [F,G];have h1:Aq (w.alloc (Obj.cells #[qP d 0,.string name,.string C] 176)) m k f:=hd.kept (row:=none) (World.grownBy_alloc _ _ _) sI;exact h1.kept (AI (zj _ (some tb)) 1 _) (by simp;exact λe=>Cy hd ht e.symm)
 have Y:AE W1 w.heap.size 176 [qP d 0,.string name,.string C]:=by rw [F];exact c9.set_other om 1 _
 have a7:AE W1 tb 173 [qP ab 0,iV (n+1),iV li,iV used,iV lb]:=by rw [F];exact a2.set 1 _
 have H:AE W1 d tn b2:=by rw [F,G];exact (b5.alloc _).set_other d7 1 _
 have I:AE W1 b 257 (.string q0::X):=by rw [F,G];exact (a4.alloc _).set_other b3 1 _
 have c7:C7 w W1 [tb,m,b]:=by
  rw [F,G];have hg:=AI (w:=w) (wr:=w.alloc (Obj.cells #[qP d 0,.string name,.string C] 176)) (World.grownBy_alloc _ _ (some tb)) 1 (iV (n+1));exact (C7.refl w _).grown hg (λx hx=> .inl (by simp at hx;simp [hx]))
 have d3:w.heap.size≠m:=Cy L Y;have f0:tb≠m:=Cy L a7;have b1:d≠m:=Cy L H;have c8:b≠m:=Cy L I;have Z:WC w.heap.size d m name C W1:=⟨Y.cell rfl,Y.cell rfl,Y.cell rfl,H.cell b9⟩
 have R0:=AC (show ∀w':World,WC w.heap.size d m name C w'->(Instr.loadAt 170 (qP w.heap.size 0)).run prog w'= .ok (qP d 0) w' from λw' h=>by
  have c:=h.1;clear Z
  go_simp)
 have R1:=AC (show ∀w':World,WC w.heap.size d m name C w'->(Instr.loadAt 9 (qP w.heap.size 1)).run prog w'= .ok (.string name) w' from λw' h=>by
  have c:=h.2.1;clear Z
  go_simp)
 have R2:=AC (show ∀w':World,WC w.heap.size d m name C w'->(Instr.loadAt 255 (qP d 3)).run prog w'= .ok (.map (some m)) w' from λw' h=>by
  have c:=h.2.2.2;clear Z
  go_simp)
 have d0:=AC (OX C W1 d6);obtain ⟨f2,d9,c6,c5,c3,b7,a5⟩:=H7 G F L a7 I c7 Z;have d8:b≠w.heap.size:=om;clear G F c9 a2 L Y a7 H I c7 hd ht b5 a4 b9 Z;go_enter func118,ntmps118
 go_upto_region 1 with fail
 rw [<-AB f2]
 go_upto_region 2 with fail
 rw [<-AB d9];clear c1 f1;have c2:cE W1 w.heap.size 2 (.string C):=a5.2.2.1
 go_wp2_with fail
 refine d0.mono ?_;rintro e w2 ⟨rfl,J⟩;have N:W1.grownBy w2 none:=⟨J.os,J.tape,J.output,J.size,λq hq _=>J.block q hq⟩;have c4:=a5.grown N sI sI;have D:=c3.grown N sI;have x5:cE w2 b 0 (.string q0):=D.cell rfl;have y5:=D.frozen 0;obtain ⟨W3,a1⟩:=xE (w2.setCell (xK b 0) (.string C));have R:w2.grownBy W3 (some b):=by rw [a1];exact AI (zj _ _) 0 _
 have b4:=c4.grown R (sU d8.symm) (sU d4.symm);have a6:=AC (show AE W3 b 257 (.string C::X) from by rw [a1];exact D.set 0 _);have f3:=AC ((c5.grown N sI).grown R (sU b3.symm));have a9:=AC ((c6.kept N sI).kept R (sU c8.symm));have b0:=AC ((b7.grown N (λx hx=>by cases hx)).grown R (λx hx=> .inl (by simp at hx;simp [hx])));have b8:=AC b4;have T:=AC (OX name W3.drew hs);have c0:=AC a1;clear N R c4 b4 J D d0 a1 c5 c6 c3 b7 a5 c2
 go_upto_region 3 with fail
 rw [<-AB c0];clear c0 x5 y5;refine Ak ?_;intro A hA;have e2:A.eval (.tmp 2)= qP b 0:=eH hA;have e4:A.eval (.tmp 4)= qP w.heap.size 0:=eH hA;have a3:A.tmps.size=28:=eZ hA;have HA:=AC hA;clear hA;refine xf (S:=WC w.heap.size d m name C) kf b8 (λhS=> ?_);refine tq 0 19 rfl (yF (qP w.heap.size 0) (qP w.heap.size 0)) hS (tq 1 20 rfl (yl R0) hS (tq 2 21 rfl (yN (xK d 0)) hS (tq 3 22 rfl (yF (qP d 0) (qP d 3)) hS (tq 4 23 rfl (yl R2) hS (tq 5 24 rfl (yF (qP w.heap.size 0) (qP w.heap.size 1)) hS ?_)))));refine tq 6 25 rfl (yl R1) hS (tq 8 27 rfl (yM (qP b 0)) hS ?_);refine rdy [7] kf (vq rfl (λK hK=> ?_) vr)
 refine DH rfl 166 25 _ rfl (.string name) sE Y7 _ (.string name) (λe w' h=>h.1) T (some 26) rfl ?_;rintro w4 ⟨_,O⟩;have M:W3.grownBy w4 none:=⟨O.os,O.tape,O.output,O.size,λq hq _=>O.block q hq⟩;have a8:=b8.grown M sI sI;refine hK.out _ _ a8 (λ_=> ?_);clear hK K;obtain ⟨w5,U,b6,a0⟩:=(a9.kept M sI).put (by unfold maxLen;omega) name (by unfold maxLen;omega) b;have d1:(((((((((A.put (some 19) (qP w.heap.size 0)).put (some 20) (qP d 0)).put (some 21) (qP d 0)).put (some 22) (qP d 3)).put (some 23) (.map (some m))).put (some 24) (qP w.heap.size 1)).put (some 25) (.string name)).put (some 27) (qP b 0)).put (some 26) (.string name)).eval (.tmp 23)= .map (some m):=by simp [Ae,AU,a3,e2,e4]
 have d5:(((((((((A.put (some 19) (qP w.heap.size 0)).put (some 20) (qP d 0)).put (some 21) (qP d 0)).put (some 22) (qP d 3)).put (some 23) (.map (some m))).put (some 24) (qP w.heap.size 1)).put (some 25) (.string name)).put (some 27) (qP b 0)).put (some 26) (.string name)).eval (.tmp 26)= .string name:=by simp [Ae,AU,a3,e2,e4]
 have d2:(((((((((A.put (some 19) (qP w.heap.size 0)).put (some 20) (qP d 0)).put (some 21) (qP d 0)).put (some 22) (qP d 3)).put (some 23) (.map (some m))).put (some 24) (qP w.heap.size 1)).put (some 25) (.string name)).put (some 27) (qP b 0)).put (some 26) (.string name)).eval (.tmp 27)= qP b 0:=by simp [Ae,AU,a3,e2,e4]
 refine rdy [9] kf ?_;refine Me (w':=w5) rfl rfl 255 (.tmp 23) (.tmp 26) (.tmp 27) rfl (.map (some m)) (.string name) (qP b 0) d1 d5 d2 U rfl (a8.grown a0 (sU d3) (sU b1)) ?_ vr;refine vg kf ?_ _;have HP:=AC (show iZ tb m k ab n li used lb f name C b X w w5 from ⟨(f3.grown M sI).grown a0 (sU f0),b6,(a6.grown M sI).grown a0 (sU c8),(b0.grown M (λx hx=>by cases hx)).grown a0 (λx hx=> .inl (by simp at hx;simp [hx]))⟩);rw [AB HA];simp only [Act.put,zl,zh,zi];clear M b6 a0 U a8 O HA e2 e4 a3 hS R0 R1 R2 T;go_wp2;go_end0;exact ⟨rfl,AB HP⟩
def Aq.block (h:Aq w m n f) (hh:w'.heap[m]? =w.heap[m]?):Aq w' m n f:=by
 obtain ⟨D,⟨es,C,hb,F,hs,hD⟩,hf⟩:=h;exact ⟨D,⟨es,C,by rw [hh];exact hb,F,hs,hD⟩,hf⟩
def Aq.lt (h:Aq w m n f):m<w.heap.size:=by obtain ⟨D,hD,_⟩:=h;exact hD.lt
def Aq.mono {n':Nat} (h:Aq w m n f) (hn:n<=n'):Aq w m n' f:=by obtain ⟨D,hD,hf⟩:=h;exact ⟨D,hD.mono hn,hf⟩
def Aq.same {g:ByteArray->Option Nat} (h:Aq w m n f) (hg:∀s,g s=f s):Aq w m n g:=by
 have:g=f:=funext hg;rw [this];exact h
def NZ {xs:List Ino} {nx:Ino} (hl:NB.length=xs.length) (d:Int) (name:ByteArray):Eg (xs++[nx]) (NB++[nb]) d name=match Eg xs NB d name with|some b=>some b|none=>if BD d name nx=true then some nb else none:=by
 unfold Eg;rw [List.findIdx?_append]
 cases hf:xs.findIdx? (BD d name) with
 |some i=>
  obtain ⟨hi,_,_⟩:=uo.1 hf;have C:i<NB.length:=om;simp only [Option.some_or]
  rw [zo C,zz C]
 |none=>
  simp only [Option.none_or];by_cases hc:BD d name nx=true
  ·rw [vu hc,List.findIdx?_cons,hc];simp [<-hl]
  ·rw [vz hc,List.findIdx?_cons];simp [hc]
def dt (d id:Int) (s name:ByteArray) (is:Bool):BD d s (Bq id d name is)=decide (s.data.toList=name.data.toList):=by
 unfold BD Bq;show (d==d&&name.toList==s.toList)=_;rw [beq_self_eq_true,Bool.true_and,tw,tw];by_cases e:s.data.toList=name.data.toList
 ·rw [ve e,e];simp
 ·rw [vf e];simp;exact λh=>e (by rw [h])
def Qm {e id:Int} {is:Bool} (h:e≠d):BD d s (Bq id e name is)=false:=by
 unfold BD Bq;show (e==d&&_)=false;rw [show (e==d)=false from by simpa using h,Bool.false_and]
def Qn {t:ByteArray} (h:s.data.toList=t.data.toList):s=t:=by
 cases s with|mk a=>cases t with|mk b=>
 congr 1;exact Array.toList_inj.1 h
def Bf.added {tb ab:Nat} {xs:List Ino} (h:Bf w B tb ab am li lb used xs NB MB V oc) {pi pm nm:Nat} {px:Ino} {dir:Bool} {mv:Value} {id:Int}
  (hp:xs[pi]? =some px) (a1:px.dir=true) (H:MB[pi]? =some pm) (Z:xs.Pairwise (λx y=>x.id<y.id)) (hc:Eg xs NB px.id name=none)
  (ht:AE w' tb 173 [qP ab 0,iV ((xs.length:Int)+1),iV li,iV used,iV lb])
  (hd:Aq w' pm (xs.length+1) (λs=>if s.data.toList=name.data.toList then some nb else Eg xs NB px.id s))
  (hn:∃q,AE w' nb 257 [.string q,.bool dir,v,mv,iV 0]/\q.size≠0) (b1:oc id=0) (b4:px.id≠0)
  (a5:dir=true->mv= .map (some nm)/\Aq w' nm 0 (λ_=>none)) (a8:dir=false->mv= .map none)
  (b8:w.heap.size<=nb) (b6:w.heap.size<=nm) (b3:nm<w'.heap.size) (hf:Ao w w' tb pm) (R:∀x∈xs,x.parent≠id) (T:px.id≠id) (hB:B<=w.heap.size):
  Bf w' B tb ab am li lb used (xs++[Bq id px.id name dir]) (NB++[nb]) (MB++[nm]) (V++[v]) oc:=by
 obtain ⟨J,a4⟩:=zy.1 hp;have I:=h.len.1;have a3:=h.len.2;have a0:=h.vlen;have Y:pm∈MB:=zv H
 have G:∀(i:Nat) (x:Ino) (b m:Nat),xs[i]? =some x->NB[i]? =some b->MB[i]? =some m->∃qn v mv,AE w' b 257 [.string qn,.bool x.dir,v,mv,iV (oc x.id)]/\(x.dir=true->mv= .map (some m)/\(i≠pi->Aq w' m xs.length (Eg xs NB x.id)))/\V[i]? =some v/\(x.dir=false->mv= .map none)/\(qn.size=0↔x.lost):=by
  intro i x b m hx hb hm;obtain ⟨qn,v1,X,h1,h2,h3⟩:=h.node i x b m hx hb hm;obtain ⟨pb,M⟩:∃pb,NB[pi]? =some pb:=⟨_,zz om⟩;obtain ⟨_,v2,b2,_,h5,_⟩:=h.node pi px pb pm hp M H;have a7:=(h5 a1).2;refine ⟨qn,v1,X,AJ h1 (hf.block b h1.lt (Ab h1 h.tree dz) (Cy a7 h1)),λD=>⟨(h2 D).1,λL=>(h2 D).2.block (hf.block m (h2 D).2.lt (λe=>Cy (h2 D).2 h.tree e.symm) (λe=> ?_))⟩,h3⟩;subst e;obtain ⟨O,F⟩:=zy.1 hm;obtain ⟨b7,b5⟩:=zy.1 H;exact L ((List.getElem_inj h.apart.1).1 (F.trans b5.symm))
 have U:Aq w pm xs.length (Eg xs NB px.id):=by
  obtain ⟨pb,M⟩:∃pb,NB[pi]? =some pb:=⟨_,zz om⟩;obtain ⟨_,v2,b2,_,h5,_⟩:=h.node pi px pb pm hp M H;exact (h5 a1).2
 have L:xs≠[]:=by intro e;rw [e] at J;simp at J
 refine ⟨?_,?_,?_,?_,?_,?_,?_,?_,?_⟩
 ·rw [zm];simpa using ht
 ·exact AJ h.above (hf.block ab h.above.lt (Ab h.above h.tree dz) (Cy U h.above))
 ·refine (h.amap.block (hf.block am h.amap.lt (λe=>Cy h.amap h.tree e.symm) (λe=>h.apart.2.1 (e▸Y)))).same λs=> ?_;rw [zo om]
 ·simp [I,a3]
 ·intro i x b m hx hb hm;by_cases hi:i<xs.length
  ·rw [zo hi] at hx;rw [zo om] at hb hm;obtain ⟨qn,v1,X,h1,h2,h3⟩:=G i x b m hx hb hm;refine ⟨qn,v1,X,h1,λD=>⟨(h2 D).1,?_⟩,by rw [zo om];exact h3.1,h3.2⟩;rw [zm];by_cases N:i=pi
   ·subst N;rw [hp] at hx;obtain rfl:=zr hx;rw [H] at hm;obtain rfl:=zr hm;refine hd.same λs=> ?_;rw [NZ I,dt];by_cases e:s.data.toList=name.data.toList
    ·obtain rfl:=Qn e;rw [hc];simp
    ·rw [vz e]
     cases hk:Eg xs NB px.id s with
     |some b=>rfl
     |none=>simp [e]
   ·refine (((h2 D).2 N).mono om).same λs=> ?_
    have a9:px.id≠x.id:=by
     intro e;obtain ⟨O,F⟩:=zy.1 hx;have a2:=vd.1 Z;rcases rf i pi with q|q|q
     ·have:=a2 i pi O J q;rw [F,a4] at this;omega
     ·exact N q
     ·have:=a2 pi i J O q;rw [F,a4] at this;omega
    rw [NZ I,Qm a9]
    cases Eg xs NB x.id s with
    |some b=>rfl
    |none=>rfl
  ·have F:=(zy.1 hx).1;rw [zm] at F;have a6:i=xs.length:=by simp at F;omega
   subst a6;rw [zn om] at hx hb hm;simp [I] at hb;simp [a3] at hm;simp at hx;subst hx hb hm;obtain ⟨qn,hn,b0⟩:=hn;refine ⟨qn,v,mv,by rw [show oc (Bq id px.id name dir).id=0 from b1];exact hn,λD=>⟨(a5 D).1,((a5 D).2.mono om).same λs=> ?_⟩,by rw [zn om];simp [a0],λq=>a8 q,λq=>absurd q b0,λq=>absurd q.1 b4⟩;show Eg _ _ id s=none;rw [NZ I,Qm T]
   have:xs.findIdx? (BD id s)=none:=by
    rw [sh];intro x hx;unfold BD;rw [show (x.parent==id)=false from by simpa using R x hx,Bool.false_and]
   unfold Eg;rw [this];rfl
 ·intro _;obtain ⟨x,hx,h1,h2⟩:=h.root L;exact ⟨x,by rw [zo om];exact hx,h1,h2⟩
 ·simp [a0]
 ·have C:=h.low;refine ⟨?_,?_,?_,?_⟩
  ·rw [List.nodup_append];exact ⟨h.apart.1,sI,λa ha b hb=>by simp at hb;have:=(C.2.2.2.2 a ha).2;omega⟩
  ·rw [vo];rintro (q|q)
   ·exact h.apart.2.1 q
   ·simp at q;have:=h.amap.lt;omega
  ·rw [List.nodup_append];refine ⟨h.apart.2.2.1,sI,λa ha b hb=> ?_⟩;simp at hb;obtain ⟨j,hj,b9⟩:=sk.1 ha;obtain ⟨qn,_,_,q,_⟩:=h.node j xs[j] NB[j] MB[j] (zz om) (zz hj) (zz om);have:=q.lt;omega
  ·rw [vo];rintro (q|q)
   ·exact h.apart.2.2.2 q
   ·simp at q;have:=h.above.lt;omega
 ·have C:=h.low;refine ⟨C.1,C.2.1,C.2.2.1,λb hb=> ?_,λm hm=> ?_⟩
  ·rcases vo.1 hb with q|q
   ·exact C.2.2.2.1 b q
   ·simp at q;omega
  ·rcases vo.1 hm with q|q
   ·exact ⟨(C.2.2.2.2 m q).1,o1 (C.2.2.2.2 m q).2⟩
   ·simp at q;subst q;exact ⟨om,b3⟩
def Bz (c:Int):Ending:= .returned (.iface 40 (iV c))
def WE (tb ab m k:Nat) (n li used lb:Int) (f:ByteArray->Option Nat) (name:ByteArray) (w:World) (e:Ending) (w':World):Prop:=
 (∃c,f name=some c)/\e=Bz 10/\Bw w w'\/f name=none/\li<=n/\e=Bz 12/\Bw w w'\/
  f name=none/\n<li/\e= .returned .nilIface/\∃nb nm,w.heap.size<=nb/\w.heap.size<=nm/\nm<w'.heap.size/\(∃q,AE w' nb 257 [.string q,.bool true,sN,.map (some nm),iV 0]/\q.size≠0)/\Aq w' nm 0 (λ_=>none)/\UV tb m k ab n li used lb f name nb w w'
def Y8 (F:o.guard=none) (f:Nat)
  (ho:o.op= .call {callee:= .value (.func f),args:=#[],argTypes:=#[]})
  (he:∀args w,(callFunc f args).run P w= .ok (.enter f args) w) (C:Ending->World->Prop) (r:Value) (hp:∀e w',C e w'->e= .returned r) (hc:Calls P f #[] w C) (d:Option Tmp) (hd:o.dst=d)
  (h:∀w',C (.returned r) w'->K (a.put d r) w'):
  if Region.wanted o (yielded ops a.tmps)=true then Oper.wp P o a w K Q else E:=by
 have hw:Region.wanted o (yielded ops a.tmps)=true:=by simp [Region.wanted,F]
 rw [vu hw];subst hd;unfold Oper.wp;simp [execOp,ho,resolve,invoke,Result.andThen,go_sem,he];refine hc.mono ?_;intro e w' D;obtain rfl:=hp e w' D;have:=h w' D;simpa [go_sem] using this
def WF:eN 64:=enters_of func64 kf rfl
def ia:eN 118:=enters_of func118 kf rfl
def Lh (b m k:Nat) (n li used lb:Int) (f:ByteArray->Option Nat) (name s:ByteArray) (U:List Value) (w:World) (ht:AE w tb 173 [qP ab 0,iV n,iV li,iV used,iV lb]) (hn:0<=n/\n<=1000000) (d5:0<=li/\li<=1000000) (hu:0<=used/\used<=lb) (d6:lb<=1000000) (d4:s.size<=100000) (d3:Hid (s.size≠0)) (b9:AE w b 257 U) (O:U[3]? =some (.map (some m))) (hd:Aq w m k f) (hk:k<=1000000) (hs:name.size<=100000)
  (HF:cT 66 #[qP tb 0,.string s] w λe w1=>e=Mb b name s/\Bw w w1):
  cT 65 #[qP tb 0,.string s] w (WE tb ab m k n li used lb f name w):=by
 obtain ⟨b4,HT,M,HD,b3⟩:=H5 HF ht b9 hd O;clear HF ht b9 hd O;go_enter func65,ntmps65
 go_wp2_with fail
 refine b4.mono ?_;rintro e w1 ⟨rfl,a6⟩;obtain ⟨W2,Z⟩:=xE (w1.alloc (Obj.cells #[qP b 0,.string name,.string s] 176));have c8:Bw w W2:=by rw [Z];exact a6.alloc a6.size _
 have d0:AE W2 w1.heap.size 176 [qP b 0,.string name,.string s]:=by rw [Z];exact AE.new w1 176 _
 obtain ⟨b6,F,I⟩:=H3 Z c8 d0;have d1:=a6.size;obtain ⟨PB,b5⟩:=xE w1.heap.size;clear Z a6 b4 c8 d0;unfold Mb
 go_upto_region 2 with fail
 rw [<-AB b6];rw [<-b5] at I d1 ⊢;clear b6 b5;have c0:cE W2 PB 0 (qP b 0):=I.cell rfl;have c1:cE W2 PB 1 (.string name):=I.cell rfl;have c2:cE W2 PB 2 (.string s):=I.cell rfl;have X:AE W2 b 257 U:=M.below F M.lt;have O:Aq W2 m k f:=HD.kept (row:=none) ⟨F.os,F.tape,F.output,F.size,λk hk _=>F.block k hk⟩ sI;have L:=AC (JI b m k name s f W2 (by unfold maxLen;omega) (X.cell b3) O);clear X O
 go_wp2_with fail
 refine L.mono ?_;rintro e w3 ⟨rfl,a9⟩;have a1:=AC (F.trans (a9.mono F.size));have c5:=AC (I.below a9 I.lt);clear a9 L c0 c1 c2
 cases hfn:f name with
 |some c=>
  unfold BF;have a5:=AC hfn;clear hfn;go_wp2;go_ret
  exact .inl ⟨⟨c,AB a5⟩,rfl,AB a1⟩
 |none=>
  unfold BF;have a5:=AC hfn;clear hfn;have c6:=AC (Mc tb ab n li used lb w3 (HT.below a1 HT.lt) hn d5 hu d6)
  go_wp2_with fail
  refine c6.mono ?_;rintro e w4 ⟨rfl,_,b2⟩;have T:=AC (a1.trans (b2.mono a1.size));have N:=AC (c5.below b2 c5.lt);clear b2 c6;by_cases C:li<=n
  ·have b1:=AC C;rw [ve C];clear C;go_wp2;go_ret;exact .inr (.inl ⟨AB a5,AB b1,rfl,AB T⟩)
  ·have b1:=AC (show n<li by omega);rw [vf C];clear C
   go_upto_region 8 with fail
   have b0:cE w4 PB 0 (qP b 0)/\cE w4 PB 1 (.string name)/\cE w4 PB 2 (.string s):=⟨N.cell rfl,N.cell rfl,N.cell rfl⟩
   have R:=AC (show ∀w':World,(w'.cell? (xK PB 0)=some (qP b 0)/\w'.cell? (xK PB 1)=some (.string name)/\w'.cell? (xK PB 2)=some (.string s))->(Instr.loadAt 176 (qP PB 0)).run prog w'= .ok (.agg #[qP b 0,.string name,.string s]) w' from λw' h=>by
    have c:=h.1;have d:=h.2.1;have d':=h.2.2;clear h b0
    go_simp)
   have L:Hid (cT 64 #[] w4.drew λe w'=>e= .returned (qP (w4.heap.size+1) 0)/\AE w' (w4.heap.size+1) 257 [.string ⟨#[]⟩,.bool true,sN,.map (some w4.heap.size),iV 0]/\Aq w' w4.heap.size 0 (λ_=>none)/\Bw w4 w'):=(Md w4.drew).mono (λe w' h=>⟨h.1,h.2.1,h.2.2.1,⟨h.2.2.2.os,h.2.2.2.tape,h.2.2.2.output,h.2.2.2.size,h.2.2.2.block⟩⟩);have a0:=AC b0;have a3:PB<w4.heap.size:=N.lt;clear b0;refine Ak ?_;intro A hA;have e0:A.eval (.tmp 0)= qP tb 0:=eH hA;have e5:A.eval (.tmp 5)= qP PB 0:=eH hA;have a4:A.tmps.size=27:=eZ hA;have HA:=AC hA;clear hA;refine xf (S:=λw'=>w'.cell? (xK PB 0)=some (qP b 0)/\w'.cell? (xK PB 1)=some (.string name)/\w'.cell? (xK PB 2)=some (.string s)) kf a0 (λhS=> ?_);refine tq 0 23 rfl (yM (qP tb 0)) hS ?_
   refine tq 1 24 rfl (yl R) hS ?_;refine rdy [2] kf (vq rfl (λK hK=> ?_) vr);refine Y8 rfl 64 rfl WF _ (qP (w4.heap.size+1) 0) (λe w' h=>h.1) L (some 25) rfl ?_;rintro w5 ⟨_,c9,Y,J⟩;have D:=T.trans (J.mono T.size);refine hK.out _ _ ⟨by rw [J.cell (p:=(xK PB 0)) a3];exact a0.1,by rw [J.cell (p:=(xK PB 1)) a3];exact a0.2.1,by rw [J.cell (p:=(xK PB 2)) a3];exact a0.2.2⟩ (λ_=> ?_);clear hK K;have c3:Aq w5 m k f:=HD.kept (row:=none) ⟨D.os,D.tape,D.output,D.size,λk hk _=>D.block k hk⟩ sI;have H:AE w5 b 257 U:=M.below D M.lt;have a7:=HT.below D HT.lt;have c4:=AC (TK tb ab b m k (w4.heap.size+1) n li used lb f name s _ _ w5 a7 hn c3 hk 257 U H b3 (Ab H a7 dz) c9 (o2 M.lt T.size) hs d4)
   have b7:(((A.put (some 23) (qP tb 0)).put (some 24) (.agg #[qP b 0,.string name,.string s])).put (some 25) (qP (w4.heap.size+1) 0)).eval (.tmp 23)= qP tb 0:=by simp [Ae,AU,a4,e0,e5]
   have c7:(((A.put (some 23) (qP tb 0)).put (some 24) (.agg #[qP b 0,.string name,.string s])).put (some 25) (qP (w4.heap.size+1) 0)).eval (.tmp 24)= .agg #[qP b 0,.string name,.string s]:=by simp [Ae,AU,a4,e0,e5]
   have b8:(((A.put (some 23) (qP tb 0)).put (some 24) (.agg #[qP b 0,.string name,.string s])).put (some 25) (qP (w4.heap.size+1) 0)).eval (.tmp 25)= qP (w4.heap.size+1) 0:=by simp [Ae,AU,a4,e0,e5]
   refine rdy [3] kf (vq rfl (λK hK=> ?_) vr);refine QT rfl 118 23 24 25 _ _ _ rfl (qP tb 0) (.agg #[qP b 0,.string name,.string s]) (qP (w4.heap.size+1) 0) b7 c7 b8 ia _ (.tuple #[]) (λe w' h=>h.1) c4 (some 26) rfl ?_;rintro w6 ⟨_,G⟩;have d7:m<w.heap.size:=HD.lt;have d8:tb<w.heap.size:=HT.lt;have d2:=T.size;have a8:AE w5 PB 176 [qP b 0,.string name,.string s]:=N.below J a3;have a2:AE w6 PB 176 [qP b 0,.string name,.string s]:=AJ a8 (G.2.2.2.block PB a8.lt sO);refine hK.out _ _ ⟨a2.cell rfl,a2.cell rfl,a2.cell rfl⟩ (λ_=> ?_);clear hK K
   have HP:=AC (show WE tb ab m k n li used lb f name w (.returned .nilIface) w6 from .inr (.inr ⟨AB a5,AB b1,rfl,w4.heap.size+1,w4.heap.size,om,om,o2 Y.lt G.2.2.2.size,⟨_,G.2.2.1,AB d3⟩,Y.block (G.2.2.2.block _ Y.lt sO),G.1,G.2.1,C7.toK D G.2.2.2 om⟩));refine vg kf ?_ _;rw [AB HA];simp only [Act.put,zl,zh,zi];clear a2 a8 G b7 c7 b8 c4 a7 H c3 D J Y c9 HA e0 e5 a4 hS L R;go_wp2;go_ret;exact AB HP
def Li (h:Al s=some l):s.size<=60:=by
 unfold Al at h;split at h
 ·cases h
 ·omega
def Na (h:Al s=some l):s.size≠0:=by
 unfold Al at h;split at h
 ·cases h
 ·omega
def ib {xs:List Ino} (h:(AH xs s).e=0):s.size≠0:=by
 cases hnm:Al s with
 |none=>unfold AH at h;rw [hnm] at h;cases h
 |some l=>exact Na hnm
def du {xs:List Ino} (h:(AH xs s).e=0):s.size<=60:=by
 cases hnm:Al s with
 |none=>unfold AH at h;rw [hnm] at h;cases h
 |some l=>exact Li hnm
def dw {a:ByteArray} {r:List ByteArray} (C:Al s=some (a::r)):∀m∈a::r,Ba m=true:=by
 unfold Al at C;split at C
 ·cases C
 ·split at C
  ·cases C
  ·split at C
   ·rename_i ha
    rw [<-zr C];exact za.1 ha
   ·cases C
def TL {xs:List Ino} {a:ByteArray} {r:List ByteArray} (C:Al s=some (a::r)) (h0:(AH xs s).e=0):Ba (AH xs s).name=true/\(AH xs s).n=Ax xs (AH xs s).dir (AH xs s).name/\((AH xs s).dir=1\/∃y∈xs,y.id=(AH xs s).dir/\y.dir=true):=by
 unfold AH at h0 ⊢;rw [C] at h0 ⊢;obtain ⟨x1,x2,x3⟩:=Lf (a::r) 1 sI h0;exact ⟨dw C _ x1,x2,x3⟩
def OY (h:Ba s=true):s.size<=14:=by
 unfold Ba at h;simp only [ug,rh] at h;exact h.1.1.1.2
def WG (w:World) (m:Nat):Prop:=∃es clock,w.heap[m]? =some (.map es clock)
def Aq.isMap (h:Aq w m n f):WG w m:=by
 obtain ⟨D,⟨es,C,hb,_⟩,_⟩:=h;exact ⟨es,C,hb⟩
def dx (oc:Int->Int) (p:PK) (s:ByteArray) (B tb ab am:Nat) (used:Int) (NB MB:List Nat) (V:List Value) (w:World) (e:Ending) (w':World):Prop:=
 (p.mkdir s).1≠0/\e=Bz (p.mkdir s).1/\Bw w w'\/(p.mkdir s).1=0/\e= .returned .nilIface/\∃m nb nm,Bf w' B tb ab am p.li p.lb used (p.mkdir s).2.xs (NB++[nb]) (MB++[nm]) (V++[sN]) oc/\Ao w w' tb m/\B<=m/\WG w m
def WH (s:ByteArray) (c:Int) (w:World) (HF:cT 66 #[qP tb 0,.string s] w λe w1=>e=Jz c/\Bw w w1):
  cT 65 #[qP tb 0,.string s] w λe w'=>e=Bz c/\Bw w w':=by
 have D:=AC HF;clear HF;go_enter func65,ntmps65
 go_wp2_with fail
 refine D.mono ?_;rintro e w1 ⟨rfl,C⟩;have HB:Hid (Bw w (w1.alloc (Obj.cells #[.pointer none,.string ByteArray.empty,.string ByteArray.empty] 176))):=C.alloc C.size _;clear C D;unfold Jz;go_wp2;go_ret;exact ⟨rfl,AB HB⟩
def WI (p:PK) (B tb ab am:Nat) (used:Int) (NB MB:List Nat) (V:List Value) (s:ByteArray) (mm:Int) (w:World) (hr:Bf w B tb ab am p.li p.lb used p.xs NB MB V oc) (hi:Ct lz p) (b4:p.xs.length<=900000) (b1:0<=p.li/\p.li<=1000000) (hu:0<=used/\used<=p.lb) (b3:p.lb<=1000000) (hs:s.size<=maxLen) (hm:cE w 3 0 (iV mm)) (b7:3<w.heap.size) (hB:B<=w.heap.size) (b8:oc (p.last+1)=0):
  cT 65 #[qP tb 0,.string s] w (dx oc p s B tb ab am used NB MB V w):=by
 have Y:p.xs≠[]:=by obtain ⟨x,hx,_⟩:=hi.root;intro e;rw [e] at hx;cases hx
 have T:∀x∈p.xs,1<=x.id:=λx hx=>(hi.ids x hx).1;have hF:=Gt B tb ab am p.li p.lb used p.xs NB MB V s mm w hr (λ_=>Y) T hi.incr hs hm b7;by_cases he:(AH p.xs s).e=0
 ·have H:=hr.root Y;obtain ⟨x0,a4,M,L⟩:=H;have R:=(zy.1 a4).1;obtain ⟨b0,a7⟩:∃b0,NB[0]? =some b0:=⟨_,zz (by rw [hr.len.1];exact R)⟩
  cases hnm:Al s with
  |none=>unfold AH at he;rw [hnm] at he;cases he
  |some l=>
   cases l with
   |nil=>
    have hw:AH p.xs s=⟨0,ByteArray.empty,1,0⟩:=by unfold AH;rw [hnm]
    have C:(p.mkdir s).1=10:=by unfold PK.mkdir;rw [hw];rfl
    refine (Lh tb ab ab am 1 p.xs.length p.li used p.lb _ ByteArray.empty s _ w hr.tree ⟨om,om⟩ b1 hu b3 (o1 (Li hnm)) (AC (Na hnm)) hr.above rfl hr.amap dz dz (hF.mono λe w1 h=> ?_)).mono λe w' h=> ?_
    ·obtain ⟨h1,h2⟩:=h;refine ⟨?_,h1⟩;rcases h2 with ⟨q,_⟩|⟨_,b,name,O,rfl⟩
     ·exact absurd he q
     ·rcases O with ⟨_,rfl,rfl⟩|⟨⟨a,r,q⟩,_⟩
      ·rfl
      ·rw [hnm] at q;cases q
    ·rcases h with ⟨_,h2,h3⟩|⟨h1,_⟩|⟨h1,_⟩
     ·exact .inl ⟨by rw [C];decide,by rw [C];exact h2,h3⟩
     ·exact absurd h1 (by show ¬(NB[0]? =none);rw [a7];simp)
     ·exact absurd h1 (by show ¬(NB[0]? =none);rw [a7];simp)
   |cons a r=>
    obtain ⟨a3,hn,X⟩:=TL (xs:=p.xs) hnm he
    obtain ⟨i,x,hx,a8,Z⟩:∃(i:Nat) (x:Ino),p.xs[i]? =some x/\x.id=(AH p.xs s).dir/\x.dir=true:=by
     rcases X with q|⟨y,hy,q1,q2⟩
     ·exact ⟨0,x0,a4,by rw [q];exact M,L⟩
     ·obtain ⟨j,hj,c0⟩:=sk.1 hy;exact ⟨j,y,by rw [zz hj,c0],q1,q2⟩
    obtain ⟨J,a6⟩:=zy.1 hx;obtain ⟨b,hb⟩:∃b,NB[i]? =some b:=⟨_,zz (by rw [hr.len.1];exact J)⟩;obtain ⟨m,U⟩:∃m,MB[i]? =some m:=⟨_,zz (by rw [hr.len.2];exact J)⟩;obtain ⟨qn,v,mv,F,I,_⟩:=hr.node i x b m hx hb U;obtain ⟨b9,D⟩:=I Z;subst b9;obtain ⟨NA,N⟩:=xE ((AH p.xs s).name);have b5:=OY a3;rw [<-N] at a3 hn b5;rw [<-a8] at hn;refine (Lh tb ab b m p.xs.length p.xs.length p.li used p.lb _ NA s _ w hr.tree ⟨om,om⟩ b1 hu b3 (o1 (Li hnm)) (AC (Na hnm)) F rfl D om om (hF.mono λe w1 h=> ?_)).mono λe w' h=> ?_
    ·obtain ⟨h1,h2⟩:=h;refine ⟨?_,h1⟩;rcases h2 with ⟨q,_⟩|⟨_,b',a2,O,rfl⟩
     ·exact absurd he q
     ·rcases O with ⟨q,_⟩|⟨_,⟨j,y,hy,c1,a1⟩,_,rfl⟩
      ·rw [hnm] at q;cases q
      ·have b6:i=j:=by
        obtain ⟨a0,a5⟩:=zy.1 hy;have a9:=vd.1 hi.incr;rcases rf i j with q|q|q
        ·have:=a9 i j J a0 q;rw [a6,a5] at this;omega
        ·exact q
        ·have:=a9 j i a0 J q;rw [a6,a5] at this;omega
       subst b6;rw [hb] at a1;obtain rfl:=zr a1;rw [N]
    ·rcases h with ⟨⟨c,h1⟩,h2,h3⟩|⟨h1,h2,h3,h4⟩|⟨h1,h2,h3,nb,nm,y1,y2,y3,y4,y5,y6,y7,y8⟩
     ·have G:(AH p.xs s).n≠0:=by
       rw [hn];intro q;rw [Ql T q] at h1;cases h1
      have C:(p.mkdir s).1=10:=by unfold PK.mkdir;rw [vz (sU he),vu G]
      exact .inl ⟨by rw [C];decide,by rw [C];exact h2,h3⟩
     ·have G:(AH p.xs s).n=0:=by
       rw [hn];by_cases q:Ax p.xs x.id NA=0
       ·exact q
       ·obtain ⟨_,_,b2,_,_,_,q2⟩:=Ma (NB:=NB) hr.len.1 q;rw [h1] at q2;cases q2
      have C:(p.mkdir s).1=12:=by unfold PK.mkdir;rw [vz (sU he),vz (sU G),vu h2]
      exact .inl ⟨by rw [C];decide,by rw [C];exact h3,h4⟩
     ·have G:(AH p.xs s).n=0:=by
       rw [hn];by_cases q:Ax p.xs x.id NA=0
       ·exact q
       ·obtain ⟨_,_,b2,_,_,_,q2⟩:=Ma (NB:=NB) hr.len.1 q;rw [h1] at q2;cases q2
      have C:p.mkdir s=(0,p.add x.id NA true):=by unfold PK.mkdir;rw [vz (sU he),vz (sU G),vz om,a8,N]
      refine .inr ⟨by rw [C],h3,m,nb,nm,?_,y8,(hr.low.2.2.2.2 m (zv U)).1,D.isMap⟩;rw [C];refine hr.added hx Z U hi.incr h1 y6 y7 y4 b8 (o1 (T x (zv hx))) (λ_=>⟨rfl,y5⟩) (λq=>by cases q) y1 y2 y3 y8 (λz hz=> ?_) ?_ hB
      ·have:=(hi.down z hz).2;have:=(hi.ids z hz).2;omega
      ·have:=(hi.ids x (zv hx)).2;omega
 ·have C:(p.mkdir s).1=(AH p.xs s).e:=by unfold PK.mkdir;rw [vu he]
  refine (WH tb s (AH p.xs s).e w (hF.mono λe w1 h=> ?_)).mono λe w' h=> .inl ⟨by rw [C];exact he,by rw [C];exact h.1,h.2⟩;obtain ⟨h1,h2⟩:=h;rcases h2 with ⟨_,q⟩|⟨q,_⟩
  ·exact ⟨q,h1⟩
  ·exact absurd q he
def BE (h:Bw w w'):w.grownBy w' none:=⟨h.os,h.tape,h.output,h.size,λk hk _=>h.block k hk⟩
def WJ (found create full dir:Bool):Int:=if found=true then (if dir=true then 11 else 0) else if create=false then 9 else if full=true then 12 else 0
def Lj (c:Int):Ending:=if c=0 then .returned .nilIface else Bz c
def K9 (b m k:Nat) (n li used lb:Int) (f:ByteArray->Option Nat) (name G:ByteArray) (C dir:Bool) (T:List Value) (w:World) (ht:AE w tb 173 [qP ab 0,iV n,iV li,iV used,iV lb]) (hn:0<=n/\n<=1000000) (a0:0<=li/\li<=1000000) (hu:0<=used/\used<=lb) (a1:lb<=1000000) (L:AE w b 257 T) (M:T[3]? =some (.map (some m))) (hd:Aq w m k f) (hs:name.size<=100000)
  (hc:∀c,f name=some c->∃v0 vs,AE w c 257 (v0:: .bool dir::vs)):
  cT 67 #[qP tb 0,.agg #[qP b 0,.string name,.string G],.bool C] w λe w'=>e=Lj (WJ (f name).isSome C (decide (li<=n)) dir)/\Bw w w':=by
 obtain ⟨W0,H⟩:=xE (w.alloc (Obj.cells #[qP b 0,.string name,.string G] 176));have I:Bw w W0:=by rw [H];exact bA
 have J:AE W0 w.heap.size 176 [qP b 0,.string name,.string G]:=by rw [H];exact AE.new w 176 _
 have c0:cE W0 w.heap.size 0 (qP b 0):=J.cell rfl;have c1:cE W0 w.heap.size 1 (.string name):=J.cell rfl;have c2:cE W0 w.heap.size 2 (.string G):=J.cell rfl;have R:=AC (JI b m k name G f W0 (by unfold maxLen;omega) ((L.below I L.lt).cell M) (hd.kept (BE I) sI));obtain ⟨Z,N,HT,HC⟩:=H4 H I ht hc;clear H I J ht L M hd hc;go_enter func67,ntmps67
 go_upto_region 1 with fail
 rw [<-AB Z]
 go_wp2_with fail
 refine R.mono ?_;rintro e w3 ⟨rfl,Y⟩;have D:=AC (N.trans (Y.mono N.size));clear Y R c0 c1 c2
 cases hfn:f name with
 |some c=>
  obtain ⟨v0,vs,hv⟩:=(AB HC) c hfn;have d0:cE w3 c 1 (.bool dir):=(hv.below D hv.lt).cell rfl;have F:=AC hfn;clear hfn hv HC;unfold BF
  cases dir with
  |true=>
   go_wp2;go_ret
   exact ⟨by rw [AB F];rfl,AB D⟩
  |false=>
   go_wp2;go_ret
   exact ⟨by rw [AB F];rfl,AB D⟩
 |none=>
  have F:=AC hfn;clear hfn HC;unfold BF
  cases C with
  |false=>
   go_wp2;go_ret
   exact ⟨by rw [AB F];rfl,AB D⟩
  |true=>
   have O:=AC (Mc tb ab n li used lb w3 (HT.below D HT.lt) hn a0 hu a1)
   go_wp2_with fail
   refine O.mono ?_;rintro e w4 ⟨rfl,_,X⟩;have U:=AC (D.trans (X.mono D.size));clear X O;obtain ⟨q,hq⟩:=xE (decide (li<=n));rw [<-hq];have HQ:=AC hq;clear hq
   cases q with
   |true=>
    go_wp2;go_ret
    exact ⟨by rw [AB F,<-AB HQ];rfl,AB U⟩
   |false=>
    go_wp2;go_ret;exact ⟨by rw [AB F,<-AB HQ];rfl,AB U⟩
def bU (tb ab m k:Nat) (n li used lb:Int) (f:ByteArray->Option Nat) (name:ByteArray) (w:World) (e:Ending) (w':World):Prop:=
 (∃c,f name=some c/\e= .returned (qP c 0)/\Bw w w')\/
  f name=none/\∃nb,e= .returned (qP nb 0)/\w.heap.size<=nb/\nb<w'.heap.size/\(∃q,AE w' nb 257 [.string q,.bool false,sN,.map none,iV 0]/\q.size≠0)/\UV tb m k ab n li used lb f name nb w w'
def Y9 (b m k:Nat) (n li used lb:Int) (f:ByteArray->Option Nat) (name C:ByteArray) (T:List Value) (w:World) (ht:AE w tb 173 [qP ab 0,iV n,iV li,iV used,iV lb]) (hn:0<=n/\n<=1000000) (b6:C.size<=100000) (b4:Hid (C.size≠0)) (U:AE w b 257 T) (X:T[3]? =some (.map (some m))) (hd:Aq w m k f) (hk:k<=1000000) (hs:name.size<=100000):
  cT 69 #[qP tb 0,.agg #[qP b 0,.string name,.string C]] w (bU tb ab m k n li used lb f name w):=by
 obtain ⟨W0,M⟩:=xE (w.alloc (Obj.cells #[qP b 0,.string name,.string C] 176));have O:Bw w W0:=by rw [M];exact bA
 have I:AE W0 w.heap.size 176 [qP b 0,.string name,.string C]:=by rw [M];exact AE.new w 176 _
 have c0:cE W0 w.heap.size 0 (qP b 0):=I.cell rfl;have c1:cE W0 w.heap.size 1 (.string name):=I.cell rfl;have c2:cE W0 w.heap.size 2 (.string C):=I.cell rfl;have a8:=AC (JI b m k name C f W0 (by unfold maxLen;omega) ((U.below O U.lt).cell X) (hd.kept (BE O) sI));obtain ⟨b5,a4,a9,HT,a2,HD,b2⟩:=H7 M O I ht U hd X;clear M O I ht U X hd;go_enter func69,ntmps69
 go_upto_region 1 with fail
 rw [<-AB b5]
 go_wp2_with fail
 refine a8.mono ?_;rintro e w3 ⟨rfl,a3⟩;have L:=AC (a4.trans (a3.mono a4.size));have G:=AC (a9.below a3 a9.lt);clear a3 a8 c0 c1 c2
 cases hfn:f name with
 |some c=>
  unfold BF;have Z:=AC hfn;clear hfn;go_wp2;go_ret
  exact .inl ⟨c,AB Z,rfl,AB L⟩
 |none=>
  unfold BF;have Z:=AC hfn;clear hfn;have c0:cE w3 w.heap.size 0 (qP b 0):=G.cell rfl;have c1:cE w3 w.heap.size 1 (.string name):=G.cell rfl;have c2:cE w3 w.heap.size 2 (.string C):=G.cell rfl
  go_upto_region 5 with fail
  obtain ⟨W4,N⟩:=xE (w3.alloc (Obj.cells #[.string ⟨#[]⟩,.bool false,sN,.map none,iV 0] 257));have J:AE W4 w3.heap.size 257 [.string ⟨#[]⟩,.bool false,sN,.map none,iV 0]:=by rw [N];exact AE.new w3 257 _
  have a1:Bw w3 W4:=by rw [N];exact bA
  rw [<-N];have H:=L.trans (a1.mono L.size);have R:=G.below a1 G.lt;have a0:=L.size;have a7:m<w.heap.size:=HD.lt;have a6:tb<w.heap.size:=HT.lt;obtain ⟨nb,b1⟩:=xE w3.heap.size;rw [<-b1] at J a0 ⊢;have b0:Aq W4 m k f:=HD.kept (BE H) sI;have D:AE W4 b 257 T:=a2.below H a2.lt;have Y:=HT.below H HT.lt;have a5:=AC (TK tb ab b m k nb n li used lb f name C _ _ W4 Y hn b0 hk 257 T D b2 (Ab D Y dz) J (o1 a2.lt) hs b6);have b3:=AC J;have b7:=AC H;have HL:=AC (show w.heap.size<=nb/\m<w.heap.size/\tb<w.heap.size from ⟨a0,a7,a6⟩);clear c0 c1 c2;have c0:cE W4 w.heap.size 0 (qP b 0):=R.cell rfl;have c1:cE W4 w.heap.size 1 (.string name):=R.cell rfl;have c2:cE W4 w.heap.size 2 (.string C):=R.cell rfl;clear N J a1 H R a0 a7 a6 b1 b0 D Y
  go_wp2_with fail
  refine a5.mono ?_;rintro e w6 ⟨rfl,F⟩;have hl:=AB HL;have HP:=AC (show bU tb ab m k n li used lb f name w (.returned (qP nb 0)) w6 from .inr ⟨AB Z,nb,rfl,hl.1,o2 b3.lt F.2.2.2.size,⟨_,F.2.2.1,AB b4⟩,F.1,F.2.1,C7.toK b7 F.2.2.2 hl.1⟩);clear F a5 c0 c1 c2 hl;go_wp2;go_ret;exact AB HP
end Go.Proofs.YtpcjkidgohpeoaaGreatDoor
