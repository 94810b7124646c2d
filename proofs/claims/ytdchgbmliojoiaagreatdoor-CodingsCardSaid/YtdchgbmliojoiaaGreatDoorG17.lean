import Derived.Test.YtdchgbmliojoiaaGreatDoorG16
import Derived.Maps.OwnSet
set_option maxRecDepth 100000
set_option maxHeartbeats 8000000
set_option linter.unusedVariables false
set_option linter.unusedSimpArgs false
namespace Go.Proofs.YtdchgbmliojoiaaGreatDoor
section
open Go.RowKit
structure Bo (p:PK):Prop where
 ids:∀x∈p.xs,1<=x.id/\x.id<=p.last
 root:∃x∈p.xs,x.id=1/\x.dir=true
 last:1<=p.last
 incr:p.xs.Pairwise (fun x y=>x.id<y.id)
 names:∀x∈p.xs,x.parent≠0->Bc x.name=true
 kids:∀x∈p.xs,∀y∈p.xs,x.parent=y.parent->x.parent≠0->x.name.toList=y.name.toList->x.id=y.id
 parents:∀x∈p.xs,x.parent≠0->∃y∈p.xs,y.id=x.parent/\y.dir=true
 root1:∀x∈p.xs,x.parent=0->x.id=1/\x.name=ByteArray.empty
 down:∀x∈p.xs,0<=x.parent/\x.parent<x.id
 len:p.cs.length=p.xs.length
 bare:∀(i:Nat) (x:Ino) (c:List Int),p.xs[i]? =some x->p.cs[i]? =some c->x.dir=true->c=[]
theorem Bo.tree {p:PK} (h:Bo p):JJ p.xs:=by
 refine ⟨fun x hx=>(h.down x hx).2,fun x hx hp=> ?_,fun x hx=> ?_⟩
 ·obtain ⟨y,hy,he,_⟩:=h.parents x hx (by omega)
  exact ⟨y,hy,he⟩
 ·by_cases hp:x.parent=0
  ·rw [(h.root1 x hx hp).2];decide
  ·have:=h.names x hx hp
   unfold Bc at this
   simp only [Bool.and_eq_true,decide_eq_true_eq] at this
   exact this.1.1.1.2
theorem Xr (lp lf lo li lb:Int):Bo (B6 lp lf lo li lb):=by
 have hm:∀x∈(B6 lp lf lo li lb).xs,x=Go.Proofs.YtdchgbmliojoiaaGreatDoor.root:=fun x hx=>by simpa [B6] using hx
 refine ⟨fun x hx=> ?_,⟨Go.Proofs.YtdchgbmliojoiaaGreatDoor.root,by simp [B6],rfl,rfl⟩,Int.le_refl 1,by simp [B6],fun x hx hp=> ?_,fun x hx y hy _ hp _=> ?_,fun x hx hp=> ?_,fun x hx _=> ?_,fun x hx=> ?_,rfl,fun i x c hx hc _=> ?_⟩
 ·obtain rfl:=hm x hx;exact ⟨Int.le_refl 1,Int.le_refl 1⟩
 ·obtain rfl:=hm x hx;exact absurd rfl hp
 ·obtain rfl:=hm x hx;obtain rfl:=hm y hy;rfl
 ·obtain rfl:=hm x hx;exact absurd rfl hp
 ·obtain rfl:=hm x hx;exact ⟨rfl,rfl⟩
 ·obtain rfl:=hm x hx;exact ⟨Int.le_refl 0,show (0:Int)<1 by decide⟩
 ·match i,hc with
  |0,hc=>
    have:[]=c:=by simpa [B6] using hc
    exact this.symm
  |(m+1),hc=>simp [B6] at hc
theorem Js {xs:List Ino}:∀(l:List ByteArray) (dir:Int),l≠[]->(CM xs dir l).e=0->(CM xs dir l).name∈l/\(CM xs dir l).n=Ax xs (CM xs dir l).dir (CM xs dir l).name/\((CM xs dir l).dir=dir\/∃y∈xs,y.id=(CM xs dir l).dir/\y.dir=true)
 |[],dir,h,_=>absurd rfl h
 |[a],dir,_,_=>⟨by simp [CM],rfl,.inl rfl⟩
 |a::b::r,dir,_,h0=>by
  unfold CM at h0 ⊢
  split at h0
  ·simp [DU] at h0
  ·rename_i h1
   rw [if_neg h1]
   split at h0
   ·rename_i h2
    rw [if_pos h2]
    obtain ⟨x1,x2,x3⟩:=Js (b::r) (Ax xs dir a) (by simp) h0
    refine ⟨List.mem_cons_of_mem _ x1,x2,.inr ?_⟩
    rcases x3 with x3|x3
    ·rw [x3]
     unfold CI at h2
     cases hf:xs.find? (fun x=>x.id==Ax xs dir a) with
     |none=>rw [hf] at h2;cases h2
     |some y=>
      rw [hf] at h2
      exact ⟨y,yq hf,by have:=List.find?_some hf;simpa using this,h2⟩
    ·exact x3
   ·simp [DU] at h0
theorem Sh {xs:List Ino} {s:ByteArray} (h0:(AN xs s).e=0) (hn:(AN xs s).n=0):Bc (AN xs s).name=true/\Ax xs (AN xs s).dir (AN xs s).name=0/\((AN xs s).dir=1\/∃y∈xs,y.id=(AN xs s).dir/\y.dir=true):=by
 unfold AN at h0 hn ⊢
 split at h0
 ·simp [DU] at h0
 ·rename_i heq
  rw [heq] at hn
  exact absurd hn (show ¬(1:Int)=0 by decide)
 ·rename_i a r heq
  rw [heq] at hn
  obtain ⟨x1,x2,x3⟩:=Js (a::r) 1 (by simp) h0
  refine ⟨?_,by rw [<-x2];exact hn,x3⟩
  have hall:∀m∈a::r,Bc m=true:=by
   unfold Ar at heq
   split at heq
   ·cases heq
   ·split at heq
    ·cases heq
    ·split at heq
     ·rename_i ha
      rw [<-zr heq]
      exact zb.1 ha
     ·cases heq
  exact hall _ x1
theorem NQ {xs:List Ino} {dir:Int} {name:ByteArray} (hid:∀x∈xs,1<=x.id) (h:Ax xs dir name=0):∀x∈xs,Az dir name x=false:=by
 intro x hx
 unfold Ax at h
 cases hf:xs.find? (Az dir name) with
 |none=>
  have:=xv.1 hf x hx
  simpa using this
 |some y=>
  rw [hf] at h
  have:=hid y (yq hf)
  have h':y.id=0:=h
  omega
theorem Bo.add {p:PK} (h:Bo p) (dir:Int) (name:ByteArray) (is:Bool) (hn:Bc name=true) (hc:Ax p.xs dir name=0) (hd:dir=1\/∃y∈p.xs,y.id=dir/\y.dir=true):Bo (p.add dir name is):=by
 have hno:=NQ (fun x hx=>(h.ids x hx).1) hc
 obtain ⟨d,hdm,hdi,hdd⟩:∃y∈p.xs,y.id=dir/\y.dir=true:=by
  rcases hd with rfl|hd
  ·obtain ⟨x,hx,h1,h2⟩:=h.root
   exact ⟨x,hx,h1,h2⟩
  ·exact hd
 have hdr:=h.ids d hdm
 have hmem:∀x∈(p.add dir name is).xs,x∈p.xs\/x=Bh (p.last+1) dir name is:=fun x hx=>by
  have:x∈p.xs++[Bh (p.last+1) dir name is]:=hx
  simpa using this
 have hl:=h.last
 refine ⟨fun x hx=> ?_,?_,show 1<=p.last+1 by omega,?_,fun x hx hp=> ?_,fun x hx y hy hp hp0 hnm=> ?_,fun x hx hp=> ?_,fun x hx hp=> ?_,fun x hx=> ?_,?_,fun i x c hx hcx hxd=> ?_⟩
 ·show 1<=x.id/\x.id<=p.last+1
  rcases hmem x hx with h1|rfl
  ·have:=h.ids x h1;omega
  ·exact ⟨show 1<=p.last+1 by omega,Int.le_refl _⟩
 ·obtain ⟨x,hx,h1,h2⟩:=h.root
  exact ⟨x,yt _ hx,h1,h2⟩
 ·show (p.xs++[Bh (p.last+1) dir name is]).Pairwise _
  rw [List.pairwise_append]
  refine ⟨h.incr,by simp,fun x hx y hy=> ?_⟩
  have e:y=Bh (p.last+1) dir name is:=by simpa using hy
  subst e
  have:=h.ids x hx
  show x.id<p.last+1
  omega
 ·rcases hmem x hx with h1|rfl
  ·exact h.names x h1 hp
  ·exact hn
 ·rcases hmem x hx with h1|rfl<;>rcases hmem y hy with h2|rfl
  ·exact h.kids x h1 y h2 hp hp0 hnm
  ·exfalso
   have:=hno x h1
   have e1:x.parent=dir:=hp
   have e2:x.name.toList=name.toList:=hnm
   simp [Az,e1,e2] at this
  ·exfalso
   have:=hno y h2
   have e1:dir=y.parent:=hp
   have e2:name.toList=y.name.toList:=hnm
   simp [Az,<-e1,<-e2] at this
  ·rfl
 ·rcases hmem x hx with h1|rfl
  ·obtain ⟨y,hy,e1,e2⟩:=h.parents x h1 hp
   exact ⟨y,yt _ hy,e1,e2⟩
  ·exact ⟨d,yt _ hdm,hdi,hdd⟩
 ·rcases hmem x hx with h1|rfl
  ·exact h.root1 x h1 hp
  ·have e:dir=0:=hp
   omega
 ·rcases hmem x hx with h1|rfl
  ·exact h.down x h1
  ·show 0<=dir/\dir<p.last+1
   omega
 ·show (p.cs++[[]]).length=(p.xs++[Bh (p.last+1) dir name is]).length
  simp [h.len]
 ·have hx':(p.xs++[Bh (p.last+1) dir name is])[i]? =some x:=hx
  have hc':(p.cs++[[]])[i]? =some c:=hcx
  rw [yu] at hx' hc'
  rw [h.len] at hc'
  split at hx'
  ·rename_i hi
   rw [if_pos hi] at hc'
   exact h.bare i x c hx' hc' hxd
  ·rename_i hi
   rw [if_neg hi] at hc'
   have hm:=zv hc'
   simpa using hm
theorem Bo.mkdir {p:PK} (h:Bo p) (s:ByteArray):Bo (p.mkdir s).2:=by
 unfold PK.mkdir
 split
 ·exact h
 ·rename_i h0
  split
  ·exact h
  ·rename_i h1
   split
   ·exact h
   ·have h0':(AN p.xs s).e=0:=Classical.byContradiction h0
    have h1':(AN p.xs s).n=0:=Classical.byContradiction h1
    obtain ⟨a,b,c⟩:=Sh h0' h1'
    exact h.add _ _ _ a b c
theorem Bo.opened {p:PK} (h:Bo p) (s:ByteArray) (h0:(AN p.xs s).e=0):Bo (p.opened s).1:=by
 unfold PK.opened
 split
 ·rename_i h1
  obtain ⟨a,b,c⟩:=Sh h0 h1
  exact h.add _ _ _ a b c
 ·exact h
theorem Bo.cs {p:PK} (h:Bo p) {cs:List (List Int)} (hl:cs.length=p.cs.length) (hb:∀(i:Nat) (x:Ino) (c:List Int),p.xs[i]? =some x->cs[i]? =some c->x.dir=true->c=[]):Bo {p with cs:=cs}:=
 ⟨h.ids,h.root,h.last,h.incr,h.names,h.kids,h.parents,h.root1,h.down,hl.trans h.len,hb⟩
theorem Bo.file {p:PK} (h:Bo p) (s:ByteArray) (B:List Int) (hc:p.fileCode s B=0):Bo (p.fileOut s B):=by
 unfold PK.fileCode at hc
 split at hc
 ·rename_i h1;exact absurd hc h1
 rename_i h1
 have h0:(AN p.xs s).e=0:=Classical.byContradiction h1
 split at hc
 ·exact absurd hc (show ¬(12:Int)=0 by decide)
 split at hc
 ·exact absurd hc (show ¬(11:Int)=0 by decide)
 rename_i hd
 have ho:=h.opened s h0
 unfold PK.fileOut
 split
 ·exact ho
 ·refine ho.cs (by simp) (fun i x c hx hcx hxd=> ?_)
  rw [yy] at hcx
  split at hcx
  ·rename_i hi
   exfalso
   apply hd
   split at hcx
   ·-- the inode at that place has that number
    rename_i hlt
    have hfind:∃y,(p.opened s).1.xs.find? (fun z=>z.id==(p.opened s).2)=some y/\∃K:Nat,BK (p.opened s).1.xs (p.opened s).2=K/\(p.opened s).1.xs[K]? =some y:=by
     cases hf:(p.opened s).1.xs.find? (fun z=>z.id==(p.opened s).2) with
     |some y=>obtain ⟨K,k1,k2⟩:=Ev hf;exact ⟨y,rfl,K,k1,k2⟩
     |none=>
      exfalso
      have hno:=xv.1 hf
      have hin:∃z∈(p.opened s).1.xs,z.id=(p.opened s).2:=by
       unfold PK.opened
       split
       ·exact ⟨Bh (p.last+1) (AN p.xs s).dir (AN p.xs s).name false,by simp [PK.add],rfl⟩
       ·rename_i hne
        unfold AN at h0 hne ⊢
        split at h0
        ·simp [DU] at h0
        ·obtain ⟨z,hz,e,_⟩:=h.root
         exact ⟨z,hz,e⟩
        ·rename_i a r heq
         rw [heq] at hne
         exact Mu (a::r) 1 h0 hne
      obtain ⟨z,hz,e⟩:=hin
      have:=hno z hz
      simp [e] at this
    obtain ⟨y,hy,K,hK,hKy⟩:=hfind
    rw [hK] at hi
    have hiK:K=i:=by simpa using hi
    subst hiK
    rw [hKy] at hx
    obtain rfl:=zr hx
    unfold CI
    rw [hy]
    exact hxd
   ·cases hcx
  ·exact ho.bare i x c hx hcx hxd
theorem Bo.puts {p:PK}:∀(FZ:List AV) {p:PK},Bo p->Bo (p.puts FZ).2
 |[],p,h=>h
 |f::r,p,h=>by
  unfold PK.puts
  split
  ·exact h
  ·rename_i hc
   have hc':(p.put f).1=0:=Classical.byContradiction hc
   refine Bo.puts (p:=p) r ?_
   unfold PK.put at hc' ⊢
   split at hc'
   ·rename_i hd
    rw [if_pos hd]
    exact h.mkdir f.path
   ·rename_i hd
    rw [if_neg hd]
    exact h.file f.path f.bytes hc'
theorem Si (lp lf lo li lb:Int) (FZ:List AV):Bo ((B6 lp lf lo li lb).puts FZ).2:=Bo.puts (p:=B6 lp lf lo li lb) FZ (Xr lp lf lo li lb)
end
section
open Go Go.RowKit Go.Maps
def CQ:Value->Option (DataW Unit×List MemPlace)
 | .pointer none=>some (.nil,[])
 | .pointer (some ⟨b,0,none⟩)=>some (.lit (.int .i64 b),[])
 |_=>none
def Em:Option Nat->DataW Unit
 |some b=> .lit (.int .i64 b)
 |none=> .nil
def CG:Option Nat->Value
 |some b=> pq b 0
 |none=> .pointer none
theorem Ln {v:Value} {o:Option Nat} {ps:List MemPlace} (h:CQ v=some (Em o,ps)):v=CG o:=by
 unfold CQ at h
 split at h
 ·cases o with
  |none=>rfl
  |some b=>simp [Em] at h
 ·rename_i b
  cases o with
  |none=>simp [Em] at h
  |some c=>
   simp [Em] at h
   have e:b=c:=by omega
   subst e
   rfl
 ·cases h
def eb (D:DataW Unit) (f:ByteArray->Option Nat):Prop:=∀kl,Maps.has D kl=true->∃(s:ByteArray) (b:Nat),kl= .string s.data.toList/\f s=some b
def Ao (w:World) (m n:Nat) (f:ByteArray->Option Nat):Prop:=
 ∃D:DataW Unit,w.ownsMap Tryz.prog 9 CQ m n D/\(∀s:ByteArray,D.atKey (.string s.data.toList) .nil=Em (f s))/\eb D f
theorem Ip:Keyed Tryz.prog 9:=string_keyed Tryz.underlying9
theorem cm (w:World):(zeroValue 172).run Tryz.prog w= .ok (.pointer none) w:=by kernel_rfl
theorem Ao.look {w:World} {m n:Nat} {f:ByteArray->Option Nat} (h:Ao w m n f) (s:ByteArray) (hs:s.size<=maxLen):(Instr.lookup 256 (.map (some m)) (.string s) false).run Tryz.prog w= .ok (CG (f s)) w:=by
 obtain ⟨D,hD,hf,_⟩:=h
 obtain ⟨v,ps,hrun,hv⟩:=hD.lookup Ip Tryz.underlying256 (cm w) (show CQ (.pointer none)=some (.nil,[]) from rfl) (Go.WideMaps.keyOf_string_mk Tryz.underlying9 hs)
 rw [hf s] at hv
 rw [<-Ln hv]
 exact hrun
theorem Ao.kept {w w':World} {m n:Nat} {f:ByteArray->Option Nat} {row:Option Nat} (h:Ao w m n f) (hg:w.grownBy w' row) (hne:some m≠row):Ao w' m n f:=by
 obtain ⟨D,hD,hf⟩:=h
 exact ⟨D,hD.kept hg hne,hf⟩
def D4 (xs:List Ino) (NB:List Nat) (d:Int) (name:ByteArray):Option Nat:=match xs.findIdx? (Az d name) with|some i=>NB[i]? |none=>none
structure Ba (w:World) (B tb ab am:Nat) (li lb used:Int) (xs:List Ino) (NB MB:List Nat) (V:List Value):Prop where
 tree:AG w tb 175 [pq ab 0,.int .i64 xs.length,.int .i64 li,.int .i64 used,.int .i64 lb]
 above:AG w ab 258 [.string ⟨#[]⟩,.bool true,.slice none 0 0,.map (some am),.int .i64 0]
 amap:Ao w am 1 (fun s=>if s.data.toList=[] then NB[0]? else none)
 len:NB.length=xs.length/\MB.length=xs.length
 node:∀(i:Nat) (x:Ino) (b m:Nat),xs[i]? =some x->NB[i]? =some b->MB[i]? =some m->∃qn v mv,AG w b 258 [.string qn,.bool x.dir,v,mv,.int .i64 0]/\(x.dir=true->mv= .map (some m)/\Ao w m xs.length (D4 xs NB x.id))/\V[i]? =some v/\(x.dir=false->mv= .map none)
 root:xs≠[]->∃x,xs[0]? =some x/\x.id=1/\x.dir=true
 vlen:V.length=xs.length
 apart:MB.Nodup/\am∉MB/\NB.Nodup/\ab∉NB
 low:B<=tb/\B<=ab/\B<=am/\(∀b∈NB,B<=b)/\∀m∈MB,B<=m/\m<w.heap.size
def QZ (xs:List Ino) (NB:List Nat) (id:Int) (b:Nat):Prop:=∃(i:Nat) (x:Ino),xs[i]? =some x/\x.id=id/\NB[i]? =some b
theorem KY {xs:List Ino} {NB:List Nat} {d:Int} {name:ByteArray} (hl:NB.length=xs.length) (h:Ax xs d name≠0):∃(i:Nat) (x:Ino) (b:Nat),xs[i]? =some x/\x.id=Ax xs d name/\NB[i]? =some b/\D4 xs NB d name=some b:=by
 unfold Ax at h ⊢
 cases hf:xs.find? (Az d name) with
 |none=>rw [hf] at h;exact absurd rfl h
 |some x=>
  obtain ⟨he,i,hi,hx,hlt⟩:=List.find?_eq_some_iff_getElem.1 hf
  have hfi:xs.findIdx? (Az d name)=some i:=by
   rw [List.findIdx?_eq_some_iff_getElem]
   exact ⟨hi,by rw [hx];exact he,fun j hj=>by simpa using hlt j hj⟩
  have hib:i<NB.length:=by omega
  refine ⟨i,x,NB[i],by rw [zz hi,hx],rfl,zz hib,?_⟩
  unfold D4
  rw [hfi]
  exact zz hib
theorem NR {xs:List Ino} {NB:List Nat} {d:Int} {name:ByteArray} (hid:∀x∈xs,1<=x.id) (h:Ax xs d name=0):D4 xs NB d name=none:=by
 have hno:=NQ hid h
 unfold D4
 cases hf:xs.findIdx? (Az d name) with
 |none=>rfl
 |some i=>
  obtain ⟨hi,he,_⟩:=List.findIdx?_eq_some_iff_getElem.1 hf
  rw [hno _ (List.getElem_mem hi)] at he
  cases he
theorem Fh {xs:List Ino} {i:Nat} {x:Ino} (hinc:xs.Pairwise (fun x y=>x.id<y.id)) (hx:xs[i]? =some x):CI xs x.id=x.dir:=by
 unfold CI
 cases hf:xs.find? (fun y=>y.id==x.id) with
 |none=>
  have:=xv.1 hf x (zv hx)
  simp at this
 |some y=>
  obtain ⟨he,j,hj,hy,_⟩:=List.find?_eq_some_iff_getElem.1 hf
  have he':y.id=x.id:=by simpa using he
  obtain ⟨hi,hxi⟩:=zy.1 hx
  have hp:=List.pairwise_iff_getElem.1 hinc
  have hij:i=j:=by
   rcases Nat.lt_trichotomy i j with h|h|h
   ·have:=hp i j hi hj h;rw [hxi,hy] at this;omega
   ·exact h
   ·have:=hp j i hj hi h;rw [hxi,hy] at this;omega
  subst hij
  rw [<-hxi,<-hy]
def Iq (e:Int):Ending:= .returned (.tuple #[.agg #[.pointer none,.string ByteArray.empty,.string ByteArray.empty],.iface 47 (.int .i64 e)])
def KZ (b:Nat) (name pth:ByteArray):Ending:= .returned (.tuple #[.agg #[pq b 0,.string name,.string pth],.nilIface])
def Qa (xs:List Ino) (NB:List Nat) (ab:Nat) (s:ByteArray) (b:Nat) (name:ByteArray):Prop:=
 Ar s=some []/\b=ab/\name=ByteArray.empty\/(∃a r,Ar s=some (a::r))/\QZ xs NB (AN xs s).dir b/\CI xs (AN xs s).dir=true/\name=(AN xs s).name
def Ur (xs:List Ino) (NB:List Nat) (ab:Nat) (s:ByteArray) (w:World) (e:Ending) (w':World):Prop:=
 Below w.heap.size w w'/\((AN xs s).e≠0/\e=Iq (AN xs s).e\/(AN xs s).e=0/\∃b name,Qa xs NB ab s b name/\e=KZ b name s)
theorem Ba.below {w w':World} {B tb ab am:Nat} {li lb used:Int} {xs:List Ino} {NB MB:List Nat} {V:List Value} (h:Ba w B tb ab am li lb used xs NB MB V) (hb:Below w.heap.size w w'):Ba w' B tb ab am li lb used xs NB MB V:=by
 have hg:w.grownBy w' none:=⟨hb.os,hb.tape,hb.output,hb.size,fun k hk _=>hb.block k hk⟩
 refine ⟨h.tree.grown hg (by simp),h.above.grown hg (by simp),h.amap.kept hg (by simp),h.len,fun i x b m hx hb hm=> ?_,h.root,h.vlen,h.apart,h.low.1,h.low.2.1,h.low.2.2.1,h.low.2.2.2.1,fun m hm=>⟨(h.low.2.2.2.2 m hm).1,by have:=(h.low.2.2.2.2 m hm).2;have:=hb.size;omega⟩⟩
 obtain ⟨qn,v,mv,h1,h2,h3⟩:=h.node i x b m hx hb hm
 exact ⟨qn,v,mv,h1.grown hg (by simp),fun hd=>⟨(h2 hd).1,(h2 hd).2.kept hg (by simp)⟩,h3⟩
theorem Sj {s:ByteArray} {l:List ByteArray} (h:Ar s=some l) {a:ByteArray} (ha:a∈l):a.size<=maxLen:=by
 unfold Ar at h
 split at h
 ·cases h
 ·split at h
  ·obtain rfl:=zr h
   simp at ha
  ·split at h
   ·rename_i hall
    rw [<-zr h] at ha
    have:=zb.1 hall a ha
    unfold Bc at this
    simp only [Bool.and_eq_true,decide_eq_true_eq] at this
    have:=this.1.1.1.2
    unfold maxLen
    omega
   ·cases h
theorem Fx {W:World} {b:Nat} {t:TypeId} {x y z:Value} (h:AG W b t [x,y,z]) (u v q:Value):(((W.setCell (pK b 0) u).setCell (pK b 1) v).setCell (pK b 2) q).cell? (pK b 0)=some u/\(((W.setCell (pK b 0) u).setCell (pK b 1) v).setCell (pK b 2) q).cell? (pK b 1)=some v/\(((W.setCell (pK b 0) u).setCell (pK b 1) v).setCell (pK b 2) q).cell? (pK b 2)=some q:=by
 have h2:=((h.set 0 u).set 1 v).set 2 q
 exact ⟨h2.cell (j:=0) rfl,h2.cell (j:=1) rfl,h2.cell (j:=2) rfl⟩
theorem Ga {w w1:World} (h:Below w.heap.size w w1) (u v q:Value):Below w.heap.size w (((w1.setCell (pK w.heap.size 0) u).setCell (pK w.heap.size 1) v).setCell (pK w.heap.size 2) q):=((h.setCell (p:=(pK w.heap.size 0)) (zx _) u).setCell (p:=(pK w.heap.size 1)) (zx _) v).setCell (p:=(pK w.heap.size 2)) (zx _) q
theorem Fy (B tb ab am:Nat) (li lb used:Int) (xs:List Ino) (NB MB:List Nat) (V:List Value) (s:ByteArray) (m:Int) (w:World) (hr:Ba w B tb ab am li lb used xs NB MB V) (hne:Ar s≠some []->xs≠[]) (hid:∀x∈xs,1<=x.id) (hinc:xs.Pairwise (fun x y=>x.id<y.id)) (hs:s.size<=maxLen) (hm:w.cell? (pK 3 0)=some (.int .i64 m)) (hml:3<w.heap.size):
  Calls Tryz.prog 66 #[pq tb 0,.string s] w (Ur xs NB ab s w):=by
 obtain ⟨W0,hW0⟩:∃W0,W0=w.alloc (Obj.cells #[.pointer none,.string ⟨#[]⟩,.string ⟨#[]⟩] 178):=⟨_,rfl⟩
 have hb0:Below w.heap.size w W0:=by rw [hW0];exact (zw _ _).alloc (zx _) _
 have hp0:AG W0 w.heap.size 178 [.pointer none,.string ⟨#[]⟩,.string ⟨#[]⟩]:=by rw [hW0];exact AG.new w 178 _
 have HNM:=AC (SD s m W0 hs (by rw [hb0.cell (p:=(pK 3 0)) hml];exact hm))
 have HR:=AC hr
 have HID:=AC hid
 have HNE:=AC hne
 clear hne
 have HINC:=AC hinc
 have HB0:=AC hb0
 have HP0:=AC hp0
 have HW0:=AC hW0
 clear hr hid hinc hb0 hp0 hW0 hm
 go_enter Tryz.func66,Tryz.ntmps66
 go_upto_region 1 with fail
 rw [<-AB HW0]
 go_wp2_with fail
 refine (AB HNM).mono ?_
 rintro e w1 ⟨hb1,(⟨hno,rfl⟩|⟨l,hl,hl100,rfl,hrow⟩)⟩
 ·have hp1:=(AB HP0).below hb1 (AB HP0).lt
  have x0:=hp1.cell (j:=0) rfl
  have x1:=hp1.cell (j:=1) rfl
  have x2:=hp1.cell (j:=2) rfl
  have f0:=hp1.frozen 0
  have f1:=hp1.frozen 1
  have f2:=hp1.frozen 2
  have HWK:=AC (show AN xs s=DU 8 by unfold AN;rw [hno])
  have HB1:=AC ((AB HB0).trans (hb1.mono (AB HB0).size))
  have hp1':=hp1
  clear hno hb1 hp1 HNM
  have hz:=Fx hp1' (.pointer none) (.string ⟨#[]⟩) (.string ⟨#[]⟩)
  have d0:=hz.1
  have d1:=hz.2.1
  have d2:=hz.2.2
  have HBZ:=AC (Ga (AB HB1) (.pointer none) (.string ⟨#[]⟩) (.string ⟨#[]⟩))
  clear hz hp1'
  go_wp2
  exact bodyPost_ret (v:= .tuple #[.agg #[.pointer none,.string ⟨#[]⟩,.string ⟨#[]⟩],.iface 47 (.int .i64 8)]) (by simp [results,Tryz.results66,go_sem,d0,d1,d2]) rfl ⟨AB HBZ,.inl (by rw [AB HWK];exact ⟨show (8:Int)≠0 by decide,rfl⟩)⟩
 ·have HB1:=AC ((AB HB0).trans (hb1.mono (AB HB0).size))
  have HR1:=AC ((AB HR).below (AB HB1))
  have hp1:=(AB HP0).below hb1 (AB HP0).lt
  have HP1:=AC hp1
  have HROW:=AC hrow
  have HL:=AC hl
  obtain ⟨RB,hRB⟩:∃RB,RB=W0.heap.size:=⟨_,rfl⟩
  rw [<-hRB] at HROW ⊢
  have t0:w1.cell? (pK tb 0)=some (pq ab 0):=(AB HR1).tree.cell rfl
  have k1:(l.length:Int)+1-1=(l.length:Int):=by omega
  have k2:(0:Int)<=(l.length:Int):=by omega
  clear hb1 hp1 hrow hl HNM hRB
  have q0:w1.cell? (pK w.heap.size 0)=some (.pointer none):=(AB HP1).cell (j:=0) rfl
  have q1:w1.cell? (pK w.heap.size 1)=some (.string ⟨#[]⟩):=(AB HP1).cell (j:=1) rfl
  have q2:w1.cell? (pK w.heap.size 2)=some (.string ⟨#[]⟩):=(AB HP1).cell (j:=2) rfl
  have r0:=(AB HP1).frozen 0
  have r1:=(AB HP1).frozen 1
  have r2:=(AB HP1).frozen 2
  go_wp2
  go_loop [9,33] (fun dv i=>∃(k d:Nat),k<=l.length/\i= .int .i64 k/\dv= pq d 0/\Hid (k=0/\d=ab\/1<=k/\∃id,QZ xs NB id d/\CI xs id=true/\AN xs s=CM xs id (l.drop (k-1)))) (fun _ i=>l.length-(intOf i).toNat)
  case atStart=>exact ⟨0,ab,by omega,rfl,rfl,AC (.inl ⟨rfl,rfl⟩)⟩
  case round=>
   obtain ⟨k,d,hk,rfl,rfl,HD⟩:=hrel
   by_cases hlt:k<l.length
   ·have hk0:(0:Int)<=(k:Int):=by omega
    have hk1:(k:Int)<(l.length:Int):=by omega
    rcases AB HD with ⟨rfl,rfl⟩|⟨hk2,id,⟨i,x,hx,hxi,hb⟩,hdir,hw⟩
    ·-- the root
     have c0:w1.cell? (pK RB 0)=some (.string ByteArray.empty):=(AB HROW).cell (j:=0) rfl
     obtain ⟨x,hx,hxi,hxd⟩:=(AB HR1).root ((AB HNE) (by rw [AB HL];intro h;injection h with h;rw [h] at hlt;simp at hlt))
     have hxl:=(zy.1 hx).1
     obtain ⟨b,hb⟩:∃b,NB[0]? =some b:=⟨_,zz (by rw [(AB HR1).len.1];exact hxl)⟩
     obtain ⟨mm,hmm⟩:∃mm,MB[0]? =some mm:=⟨_,zz (by rw [(AB HR1).len.2];exact hxl)⟩
     have a2:w1.cell? (pK d 3)=some (.map (some am)):=(AB HR1).above.cell rfl
     have hlk:=(AB HR1).amap.look ByteArray.empty (by decide)
     rw [if_pos (show ByteArray.empty.data.toList=[] from rfl),hb] at hlk
     obtain ⟨qn,v,mv,hnode,_⟩:=(AB HR1).node 0 x b mm hx hb hmm
     rw [hxd] at hnode
     have n0:w1.cell? (pK b 1)=some (.bool true):=hnode.cell rfl
     have HNX:=AC (show QZ xs NB 1 b/\CI xs 1=true/\AN xs s=CM xs 1 (l.drop (0+1-1)) from by
      refine ⟨⟨0,x,hx,hxi,hb⟩,?_,?_⟩
      ·have:=Fh (AB HINC) hx
       rw [hxi,hxd] at this;exact this
      ·unfold AN
       rw [AB HL]
       cases l with
       |nil=>simp at hlt
       |cons a r=>rfl)
     unfold CG at hlk
     clear hx hxi hxd hxl hb hmm hnode
     go_wp2
     go_round
     case rel=>exact ⟨1,b,by omega,rfl,rfl,AC (.inr ⟨zx 1,1,AB HNX⟩)⟩
     case measure=>simp [intOf];omega
    ·-- a name
     obtain ⟨a,ha⟩:∃a,l[k-1]? =some a:=⟨_,zz (by omega)⟩
     have c0:w1.cell? (pK RB k)=some (.string a):=(AB HROW).cell (by
      rw [show k=(k-1)+1 by omega]
      show (CV l)[k-1]? =_
      simp [CV,ha])
     obtain ⟨a',b',r,ha',hd1,hd2⟩:=Rx (l:=l) (k:=k-1) (by omega)
     rw [ha] at ha'
     obtain rfl:=zr ha'
     rw [show k-1+1=k by omega] at hd2
     rw [hd1] at hw
     unfold CM at hw
     have hxl:=(zy.1 hx).1
     obtain ⟨mm,hmm⟩:∃mm,MB[i]? =some mm:=⟨_,zz (by rw [(AB HR1).len.2];exact hxl)⟩
     obtain ⟨qn,v,mv,hnode,hkids,_⟩:=(AB HR1).node i x d mm hx hb hmm
     have hxd:x.dir=true:=by rw [<-Fh (AB HINC) hx,hxi];exact hdir
     obtain ⟨rfl,hdict⟩:=hkids hxd
     rw [hxi] at hdict
     have n2:w1.cell? (pK d 3)=some (.map (some mm)):=hnode.cell rfl
     have hlk:=hdict.look a (Sj (AB HL) (zv ha))
     by_cases hz:Ax xs id a=0
     ·rw [NR (AB HID) hz] at hlk
      unfold CG at hlk
      rw [if_pos hz] at hw
      have HWK:=AC hw
      obtain ⟨d0,d1,d2⟩:=Fx (AB HP1) (.pointer none) (.string ⟨#[]⟩) (.string ⟨#[]⟩)
      have HBZ:=AC (Ga (AB HB1) (.pointer none) (.string ⟨#[]⟩) (.string ⟨#[]⟩))
      clear hx hxi hb hdir hw ha hd1 hd2 hxl hmm hnode hkids hxd hdict hz
      go_wp2
      exact bodyPost_ret (v:= .tuple #[.agg #[.pointer none,.string ⟨#[]⟩,.string ⟨#[]⟩],.iface 47 (.int .i64 9)]) (by simp [results,Tryz.results66,go_sem,d0,d1,d2]) rfl ⟨AB HBZ,.inl (by rw [AB HWK];exact ⟨show (9:Int)≠0 by decide,rfl⟩)⟩
     ·obtain ⟨i2,x2,b2,hx2,hxi2,hb2,hk2'⟩:=KY (NB:=NB) (AB HR1).len.1 hz
      rw [hk2'] at hlk
      unfold CG at hlk
      rw [if_neg hz] at hw
      have hxl2:=(zy.1 hx2).1
      obtain ⟨m2,hm2⟩:∃m2,MB[i2]? =some m2:=⟨_,zz (by rw [(AB HR1).len.2];exact hxl2)⟩
      obtain ⟨qn,v2,mv2,hnode2,_⟩:=(AB HR1).node i2 x2 b2 m2 hx2 hb2 hm2
      have hdi2:=Fh (AB HINC) hx2
      rw [hxi2] at hdi2
      have n0:w1.cell? (pK b2 1)=some (.bool x2.dir):=hnode2.cell rfl
      cases hdd:x2.dir with
      |false=>
       rw [hdd] at n0 hdi2
       rw [if_neg (by rw [hdi2];decide)] at hw
       have HWK:=AC hw
       obtain ⟨d0,d1,d2⟩:=Fx (AB HP1) (.pointer none) (.string ⟨#[]⟩) (.string ⟨#[]⟩)
       have HBZ:=AC (Ga (AB HB1) (.pointer none) (.string ⟨#[]⟩) (.string ⟨#[]⟩))
       clear hx hxi hb hdir hw ha hd1 hd2 hxl hmm hnode hkids hxd hdict hz hx2 hxi2 hb2 hk2' hxl2 hm2 hnode2 hdi2 hdd
       go_wp2
       exact bodyPost_ret (v:= .tuple #[.agg #[.pointer none,.string ⟨#[]⟩,.string ⟨#[]⟩],.iface 47 (.int .i64 11)]) (by simp [results,Tryz.results66,go_sem,d0,d1,d2]) rfl ⟨AB HBZ,.inl (by rw [AB HWK];exact ⟨show (11:Int)≠0 by decide,rfl⟩)⟩
      |true=>
       rw [hdd] at n0 hdi2
       rw [if_pos hdi2,<-hd2] at hw
       have HNX:=AC (show 1<=k+1/\∃id,QZ xs NB id b2/\CI xs id=true/\AN xs s=CM xs id (l.drop (k+1-1)) from ⟨by omega,Ax xs id a,⟨i2,x2,hx2,hxi2,hb2⟩,hdi2,hw⟩)
       clear hx hxi hb hdir hw ha hd1 hd2 hxl hmm hnode hkids hxd hdict hz hx2 hxi2 hb2 hk2' hxl2 hm2 hnode2 hdi2 hdd
       go_wp2
       go_round
       case rel=>exact ⟨k+1,b2,by omega,by go_num,rfl,AC (.inr (AB HNX))⟩
       case measure=>simp [intOf];omega
   ·have hke:k=l.length:=by omega
    subst hke
    obtain ⟨NA,hNA,HPI⟩:∃NA,w1.cell? (pK RB l.length)=some (.string NA)/\Hid ((AN xs s).e=0/\Qa xs NB ab s d NA):=by
     rcases AB HD with ⟨h0,rfl⟩|⟨hk2,id,hnd,hdir,hw⟩
     ·have hl0:l=[]:=List.eq_nil_of_length_eq_zero h0
      subst hl0
      refine ⟨ByteArray.empty,(AB HROW).cell (j:=0) rfl,AC ⟨?_,.inl ⟨AB HL,rfl,rfl⟩⟩⟩
      unfold AN
      rw [AB HL]
     ·obtain ⟨a,ha⟩:∃a,l[l.length-1]? =some a:=⟨_,zz (by omega)⟩
      have hdr:l.drop (l.length-1)=[a]:=by
       have hkl:l.length-1<l.length:=by omega
       rw [List.drop_eq_getElem_cons hkl,yg (by omega)]
       rw [zz hkl] at ha
       rw [zr ha]
      rw [hdr] at hw
      have hw':AN xs s=⟨id,a,Ax xs id a,0⟩:=hw
      refine ⟨a,(AB HROW).cell ?_,AC ⟨by rw [hw'],.inr ⟨?_,by rw [hw'];exact hnd,by rw [hw'];exact hdir,by rw [hw']⟩⟩⟩
      ·rw [show l.length=(l.length-1)+1 by omega]
       show (CV l)[l.length-1]? =_
       simp [CV,ha]
      ·rw [AB HL]
       cases l with
       |nil=>simp at hk2
       |cons a r=>exact ⟨a,r,rfl⟩
    obtain ⟨d0,d1,d2⟩:=Fx (AB HP1) (pq d 0) (.string NA) (.string s)
    have HBZ:=AC (Ga (AB HB1) (pq d 0) (.string NA) (.string s))
    have k3:(l.length:Int)<(l.length:Int)+1:=by omega
    go_wp2
    exact bodyPost_ret (v:= .tuple #[.agg #[pq d 0,.string NA,.string s],.nilIface]) (by simp [results,Tryz.results66,go_sem,d0,d1,d2]) rfl ⟨AB HBZ,.inr ⟨(AB HPI).1,d,NA,(AB HPI).2,rfl⟩⟩
end
end Go.Proofs.YtdchgbmliojoiaaGreatDoor
