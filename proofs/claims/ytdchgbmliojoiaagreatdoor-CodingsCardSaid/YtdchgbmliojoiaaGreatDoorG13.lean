import Derived.Test.YtdchgbmliojoiaaGreatDoorG05
import Derived.Test.YtdchgbmliojoiaaGreatDoorG08
set_option maxRecDepth 100000
set_option maxHeartbeats 4000000
set_option linter.unusedVariables false
set_option linter.unusedSimpArgs false
namespace Go.Proofs.YtdchgbmliojoiaaGreatDoor
section
open Go Go.RowKit
def SA (s:ByteArray) (w:World) (e:Ending) (w':World):Prop:=
 Below w.heap.size w w'/\(Ar s=none/\e= .returned (.tuple #[.slice none 0 0,.iface 47 (.int .i64 8)])\/∃l,Ar s=some l/\l.length<=100/\e= .returned (.tuple #[.slice (some (pK w.heap.size 0)) (l.length+1) (l.length+1),.nilIface])/\AG w' w.heap.size 9 (CV (ByteArray.empty::l)))
theorem QR (l:List UInt8):Lib.hasPrefix l [47]=(l[0]? ==some 47):=by
 cases l with
 |nil=>rfl
 |cons c r=>
  show [47].isPrefixOf (c::r)=_
  by_cases h:c=47
  ·subst h;simp
  ·have e:((47:UInt8)==c)=false:=by
    rw [beq_eq_false_iff_ne]
    intro e
    exact h e.symm
   have e2:((c::r)[0]? ==some 47)=false:=by
    rw [beq_eq_false_iff_ne]
    intro e
    exact h (zr e)
   rw [e2]
   simp [List.isPrefixOf,e]
theorem Ib:∀(l word:List UInt8),(parts l word).length<=l.length+1
 |[],word=>by simp [parts]
 |c::r,word=>by
  unfold parts
  split
  ·have:=Ib r [];simp;omega
  ·have:=Ib r (word++[c]);simp;omega
theorem SC {s:ByteArray} (h:s.size<=60):(An s).length<=100:=by
 unfold An
 rw [zc]
 have:=Ib (s.data.toList.drop 1) []
 have h2:s.data.toList.length=s.size:=xu
 have h3:=List.length_drop (l:=s.data.toList) (i:=1)
 omega
theorem Hl:∀(l word p:List UInt8),p∈parts l word->p.length<=l.length+word.length
 |[],word,p,h=>by
  have:p=word:=by simpa [parts] using h
  subst this;simp
 |c::r,word,p,h=>by
  unfold parts at h
  split at h
  ·rcases List.mem_cons.1 h with rfl|h
   ·rw [List.length_cons];omega
   ·have:=Hl r [] p h;rw [List.length_nil] at this;rw [List.length_cons];omega
  ·have:=Hl r (word++[c]) p h;simp at this ⊢;omega
theorem XQ {s q:ByteArray} (h:s.size<=60) (hq:q∈An s):q.size<=maxLen:=by
 obtain ⟨p,hp,rfl⟩:=yw.1 hq
 have h1:=Hl _ [] p hp
 have h2:s.data.toList.length=s.size:=xu
 have h3:=List.length_drop (l:=s.data.toList) (i:=1)
 have h4:(IM p).size=p.length:=by simp [IM,ByteArray.size]
 unfold maxLen
 simp at h1
 omega
theorem SD (s:ByteArray) (m:Int) (w:World) (hs:s.size<=maxLen) (hm:w.cell? (pK 3 0)=some (.int .i64 m)):Calls Tryz.prog 119 #[.string s] w (SA s w):=by
 have HPX:=AC (show Calls Tryz.prog 167 #[.string s,.string ⟨#[47]⟩] w fun e w'=>e= .returned (.bool (Lib.hasPrefix s.data.toList [47]))/\w'=w from Go.Proofs.Any.strings_HasPrefix hasPrefix s ⟨#[47]⟩ w)
 rw [QR] at HPX
 have hmx:(s.size:Int)<=9223372036854775807:=by unfold maxLen at hs;omega
 have HBR:=AC (zw w.heap.size w)
 by_cases h1:s.size<=60
 case neg=>
  have HR:=AC (show Ar s=none by unfold Ar;rw [if_pos (.inl (by omega))])
  have i1:(60:Int)<(s.size:Int):=by omega
  clear h1 hs
  go_enter Tryz.func119,Tryz.ntmps119
  go_wp2
  go_ret2
  exact ⟨AB HBR,.inl ⟨AB HR,rfl⟩⟩
 have i1:¬(60:Int)<(s.size:Int):=by omega
 by_cases h2:s.data.toList[0]? =some 47
 case neg=>
  have HR:=AC (show Ar s=none by unfold Ar;rw [if_pos (.inr (.inr h2))])
  have e2:(s.data.toList[0]? ==some 47)=false:=by simpa using h2
  rw [e2] at HPX
  clear h1 hs h2 e2
  go_enter Tryz.func119,Tryz.ntmps119
  go_wp2_with fail
  refine (AB HPX).mono ?_
  rintro e w' ⟨rfl,rfl⟩
  go_wp2
  go_ret2
  exact ⟨AB HBR,.inl ⟨AB HR,rfl⟩⟩
 have e2:(s.data.toList[0]? ==some 47)=true:=by simpa using h2
 rw [e2] at HPX
 have hpos:0<s.size:=by
  have h9:=(zy.1 h2).1
  have h8:s.data.toList.length=s.size:=xu
  omega
 by_cases h5:s.size=1
 ·have HR:=AC (show Ar s=some [] by unfold Ar;rw [if_neg (by rintro (h|h|h);omega;omega;exact h h2),if_pos h5])
  have g2:=WL h5 h2
  have HN:=AC (AG.new w 9 [.string ByteArray.empty])
  have HB2:=AC ((zw w.heap.size w).alloc (zx _) (Obj.cells #[.string ByteArray.empty] 9))
  clear h1 hs h2 e2 h5
  go_enter Tryz.func119,Tryz.ntmps119
  go_wp2_with fail
  refine (AB HPX).mono ?_
  rintro e w' ⟨rfl,rfl⟩
  go_wp2
  go_ret2
  exact ⟨AB HB2,.inr ⟨[],AB HR,by simp,rfl,AB HN⟩⟩
 have g2:=WM h5
 have hsp:=Rz h2
 have HSP:=AC (show Calls Tryz.prog 168 #[.string s,.string ⟨#[47]⟩] w fun e w'=>e= .returned (.slice (some (pK w.heap.size 0)) ((An s).length+1) ((An s).length+1))/\w'=w.alloc (.cells (CV (ByteArray.empty::An s)).toArray 9) from by
  have h:=Go.Proofs.Any.strings_Split split (by kernel_rfl) s ⟨#[47]⟩ m w (by omega) hm (by decide)
  have hl:=Lib.splitB_all ⟨#[47]⟩ (by decide) 0 _ s rfl
  rw [hsp] at hl
  have hl':(An s).length+1=Lib.countB s ⟨#[47]⟩+1:=hl
  rw [hsp,<-hl'] at h
  exact h)
 have HNP:=AC (show ∀q∈An s,JF q=Bc q from fun q hq=>R8 hq)
 have hpl:=SC h1
 have HNO:=AC (show Ar s=if (An s).all Bc=true then some (An s) else none by unfold Ar;rw [if_neg (by rintro (h|h|h);omega;omega;exact h h2),if_neg h5])
 have HSZ:=AC (show ∀q∈An s,q.size<=maxLen from fun q hq=>XQ h1 hq)
 have hl0:0<(An s).length:=by
  obtain ⟨h,t,he⟩:=Jn (s.data.toList.drop 1) []
  unfold An
  rw [he];simp
 obtain ⟨L,hL⟩:∃L,L=An s:=⟨_,rfl⟩
 rw [<-hL] at HSP HNP HNO HSZ hpl hl0
 obtain ⟨W1,hW1⟩:∃W1,W1=w.alloc (.cells (CV (ByteArray.empty::L)).toArray 9):=⟨_,rfl⟩
 rw [<-hW1] at HSP
 have HN1:=AC (show AG W1 w.heap.size 9 (CV (ByteArray.empty::L)) from by rw [hW1];exact AG.new w 9 _)
 have HB1:=AC (show Below w.heap.size w W1 from by rw [hW1];exact (zw _ _).alloc (zx _) _)
 clear h1 hs h2 e2 h5 hsp hL hW1
 go_enter Tryz.func119,Tryz.ntmps119
 go_wp2_with fail
 refine (AB HPX).mono ?_
 rintro e w' ⟨rfl,rfl⟩
 go_wp2_with fail
 refine (AB HSP).mono ?_
 rintro e w2 ⟨rfl,rfl⟩
 have k1:(1:Int)<=(L.length:Int)+1:=by omega
 have k2:L.length≠0:=by omega
 go_wp2
 go_loop [24] (fun i=>∃k:Nat,k<=L.length/\i= .int .i64 k/\Hid (∀j q,j<k->L[j]? =some q->Bc q=true)) (fun i=>L.length-(intOf i).toNat)
 case atStart=>exact ⟨0,by omega,rfl,AC (fun j q hj=>by omega)⟩
 case round=>
  obtain ⟨k,hk,rfl,HA⟩:=hrel
  by_cases hlt:k<L.length
  ·obtain ⟨q,hq⟩:∃q,L[k]? =some q:=⟨_,zz hlt⟩
   have c0:w2.cell? (pK w'.heap.size (1+k))=some (.string q):=(AB HN1).cell (by rw [Nat.add_comm];show (CV L)[k]? =_;simp [CV,hq])
   have hqm:=zv hq
   have HNM:=AC (QQ q w2 (AB HSZ q hqm))
   rw [AB HNP q hqm] at HNM
   have hk0:(0:Int)<=(k:Int):=by omega
   have hk1:(k:Int)<(L.length:Int):=by omega
   cases hb:Bc q with
   |false=>
    rw [hb] at HNM
    have HR:=AC (show Ar s=none by
     rw [AB HNO,if_neg]
     intro hall
     have:=zb.1 hall q hqm
     rw [hb] at this
     cases this)
    clear hq hqm hb
    go_wp2_with fail
    refine (AB HNM).mono ?_
    rintro e w3 ⟨rfl,rfl⟩
    go_wp2
    go_ret2
    exact ⟨AB HB1,.inl ⟨AB HR,rfl⟩⟩
   |true=>
    rw [hb] at HNM
    have HN:Hid (∀j q,j<k+1->L[j]? =some q->Bc q=true):=AC (fun j p hj hp=>by
     rcases Nat.lt_succ_iff_lt_or_eq.1 hj with h|h
     ·exact AB HA j p h hp
     ·subst h
      rw [hq] at hp
      obtain rfl:=zr hp
      exact hb)
    clear hq hqm hb
    go_wp2_with fail
    refine (AB HNM).mono ?_
    rintro e w3 ⟨rfl,rfl⟩
    go_wp2
    go_round
    case rel=>exact ⟨k+1,by omega,by go_num,HN⟩
    case measure=>simp [intOf];omega
  ·have HR:=AC (show Ar s=some L by
    rw [AB HNO,if_pos]
    refine zb.2 (fun q hq=> ?_)
    obtain ⟨j,hj⟩:=yo.1 hq
    exact AB HA j q (by have:=(zy.1 hj).1;omega) hj)
   go_wp2
   go_ret2
   exact ⟨AB HB1,.inr ⟨L,AB HR,hpl,rfl,AB HN1⟩⟩
end
section
open Go.RowKit
theorem JY (xs:List Ino) (dir:Int) (name:ByteArray):Ax (xs.map erase) dir name=Ax xs dir name:=by
 unfold Ax
 rw [List.find?_map,show Az dir name∘erase=Az dir name from rfl]
 cases xs.find? (Az dir name)<;>rfl
theorem Gn (xs:List Ino) (n:Int):BK (xs.map erase) n=BK xs n:=by
 unfold BK
 rw [List.findIdx?_map,show (fun x:Ino=>x.id==n)∘erase=(fun x:Ino=>x.id==n) from rfl]
theorem GV (xs:List Ino) (n:Int):CI (xs.map erase) n=CI xs n:=by
 unfold CI
 rw [List.find?_map,show (fun x:Ino=>x.id==n)∘erase=(fun x:Ino=>x.id==n) from rfl]
 cases xs.find? (fun x:Ino=>x.id==n)<;>rfl
theorem KQ (xs:List Ino):∀(l:List ByteArray) (dir:Int),CM (xs.map erase) dir l=CM xs dir l
 |[],_=>rfl
 |[a],dir=>by simp only [CM,JY]
 |a::b::r,dir=>by
  simp only [CM,JY,GV]
  split
  ·rfl
  ·split
   ·exact KQ xs (b::r) _
   ·rfl
theorem EP (xs:List Ino) (s:ByteArray):AN (xs.map erase) s=AN xs s:=by
 unfold AN
 split
 ·rfl
 ·rfl
 ·exact KQ xs _ 1
structure PK where
 lp:Int
 lf:Int
 lo:Int
 li:Int
 lb:Int
 last:Int
 xs:List Ino
 cs:List (List Int)
def RK.toP (k:RK) (cs:List (List Int)):PK:=⟨k.lp,k.lf,k.lo,k.li,k.lb,k.last,k.inos.map erase,cs⟩
def PK.add (p:PK) (dir:Int) (name:ByteArray) (is:Bool):PK:={p with xs:=p.xs++[Bh (p.last+1) dir name is],cs:=p.cs++[[]],last:=p.last+1}
def PK.mkdir (p:PK) (s:ByteArray):Int×PK:=
 if (AN p.xs s).e≠0 then ((AN p.xs s).e,p) else if (AN p.xs s).n≠0 then (10,p) else if p.li<=(p.xs.length:Int) then (12,p) else (0,p.add (AN p.xs s).dir (AN p.xs s).name true)
def PK.opened (p:PK) (s:ByteArray):PK×Int:=if (AN p.xs s).n=0 then (p.add (AN p.xs s).dir (AN p.xs s).name false,p.last+1) else (p,(AN p.xs s).n)
def PK.old (p:PK) (n:Int):List Int:=p.cs.getD (BK p.xs n).toNat []
def PK.fileCode (p:PK) (s:ByteArray) (B:List Int):Int:=
 if (AN p.xs s).e≠0 then (AN p.xs s).e
 else if (AN p.xs s).n=0/\p.li<=(p.xs.length:Int) then 12
 else if CI (p.opened s).1.xs (p.opened s).2=true then 11
 else if 0<B.length/\p.lb<(AU (p.opened s).1.cs:Int)-(((p.opened s).1.old (p.opened s).2).length:Int)+((max B.length ((p.opened s).1.old (p.opened s).2).length:Nat):Int) then 12 else 0
def PK.fileOut (p:PK) (s:ByteArray) (B:List Int):PK:=
 if B.length=0 then (p.opened s).1 else {(p.opened s).1 with cs:=(p.opened s).1.cs.set (BK (p.opened s).1.xs (p.opened s).2).toNat (Ee ((p.opened s).1.old (p.opened s).2) B)}
theorem WN (k:RK) (cs:List (List Int)) (dir:Int) (name:ByteArray) (is:Bool):(k.add dir name is).toP (cs++[[]])=(k.toP cs).add dir name is:=by
 unfold RK.toP RK.add PK.add
 simp only [xt,List.map_cons,List.map_nil]
 rfl
theorem XY (k:RK) (cs:List (List Int)) (s:ByteArray):((k.toP cs).mkdir s).1=(CW k s).1/\((CW k s).1=0->((k.toP cs).mkdir s).2=(CW k s).2.toP (cs++[[]])):=by
 have hw:AN (k.toP cs).xs s=AN k.inos s:=EP k.inos s
 have hl:(k.toP cs).xs.length=k.inos.length:=zc _
 unfold PK.mkdir CW
 rw [hw,hl,show (k.toP cs).li=k.li from rfl]
 split
 ·rename_i h
  exact ⟨rfl,fun h0=>absurd h0 h⟩
 split
 ·exact ⟨rfl,fun h0=>absurd h0 (show ¬(10:Int)=0 by decide)⟩
 split
 ·exact ⟨rfl,fun h0=>absurd h0 (show ¬(12:Int)=0 by decide)⟩
 ·exact ⟨rfl,fun _=>(WN k cs _ _ _).symm⟩
theorem Mw (k:RK) (cs:List (List Int)) (s:ByteArray):(k.toP cs).opened s=((Go.Proofs.YtdchgbmliojoiaaGreatDoor.opened k cs s).1.toP (Go.Proofs.YtdchgbmliojoiaaGreatDoor.opened k cs s).2.1,(Go.Proofs.YtdchgbmliojoiaaGreatDoor.opened k cs s).2.2):=by
 have hw:AN (k.toP cs).xs s=AN k.inos s:=EP k.inos s
 unfold PK.opened Go.Proofs.YtdchgbmliojoiaaGreatDoor.opened
 rw [hw]
 split
 ·rw [<-WN];rfl
 ·rfl
theorem WO (k:RK) (cs:List (List Int)) (n:Int):(k.toP cs).old n=IN (k,cs,n):=by
 unfold PK.old IN
 show cs.getD (BK (k.inos.map erase) n).toNat []=_
 rw [Gn]
theorem ZX (k:RK) (cs:List (List Int)) (s:ByteArray) (B:List Int):(k.toP cs).fileCode s B=fileCode k cs s B:=by
 have hw:AN (k.toP cs).xs s=AN k.inos s:=EP k.inos s
 have hl:(k.toP cs).xs.length=k.inos.length:=zc _
 unfold PK.fileCode fileCode
 rw [hw,hl,Mw]
 simp only [WO]
 rw [show (k.toP cs).li=k.li from rfl,show (k.toP cs).lb=k.lb from rfl]
 rw [show ((Go.Proofs.YtdchgbmliojoiaaGreatDoor.opened k cs s).1.toP (Go.Proofs.YtdchgbmliojoiaaGreatDoor.opened k cs s).2.1).xs=(Go.Proofs.YtdchgbmliojoiaaGreatDoor.opened k cs s).1.inos.map erase from rfl,GV]
 rfl
theorem SG (k k':RK) (cs:List (List Int)) (s:ByteArray) (B:List Int) (he:k'.inos.map erase=(Go.Proofs.YtdchgbmliojoiaaGreatDoor.opened k cs s).1.inos.map erase) (hk:{k' with inos:=[]}={(Go.Proofs.YtdchgbmliojoiaaGreatDoor.opened k cs s).1 with inos:=[]}):
  (k.toP cs).fileOut s B=k'.toP (FH k cs s B):=by
 have hf:∀cc,k'.toP cc=(Go.Proofs.YtdchgbmliojoiaaGreatDoor.opened k cs s).1.toP cc:=fun cc=>by
  unfold RK.toP
  rw [he]
  simp only [RK.mk.injEq] at hk
  obtain ⟨h1,h2,h3,h4,h5,_,_,_,_,_,_,_,h6⟩:=hk
  rw [h1,h2,h3,h4,h5,h6]
 rw [hf]
 unfold PK.fileOut FH
 rw [Mw]
 simp only [WO]
 split
 ·rfl
 ·rw [show ((Go.Proofs.YtdchgbmliojoiaaGreatDoor.opened k cs s).1.toP (Go.Proofs.YtdchgbmliojoiaaGreatDoor.opened k cs s).2.1).xs=(Go.Proofs.YtdchgbmliojoiaaGreatDoor.opened k cs s).1.inos.map erase from rfl,Gn]
  rfl
def Ey:ByteArray:=⟨#[47]⟩
def DP (xs:List Ino):Nat->Int->ByteArray->ByteArray
 |0,_,t=>t
 |n+1,id,t=>if id<=1 then t else match xs.find? (fun x=>x.id==id) with|some x=>DP xs n x.parent (Ey++x.name++t)|none=>t
def Ci (xs:List Ino) (id:Int):ByteArray:=DP xs id.toNat id ByteArray.empty
structure JJ (xs:List Ino):Prop where
 down:∀x∈xs,x.parent<x.id
 there:∀x∈xs,1<x.parent->∃y∈xs,y.id=x.parent
 names:∀x∈xs,x.name.size<=14
theorem F7 {xs:List Ino} {n:Nat} {id:Int} {t:ByteArray} (h:id<=1):DP xs n id t=t:=by
 cases n with
 |zero=>rfl
 |succ n=>unfold DP;rw [if_pos h]
theorem In {xs:List Ino} (hd:∀x∈xs,x.parent<x.id):∀(n m:Nat) (id:Int) (t:ByteArray),id<=n+1->id<=m+1->DP xs n id t=DP xs m id t
 |0,m,id,t,h1,h2=>by rw [F7 (by omega),F7 (by omega)]
 |n+1,0,id,t,h1,h2=>by rw [F7 (by omega),F7 (by omega)]
 |n+1,m+1,id,t,h1,h2=>by
  unfold DP
  split
  ·rfl
  ·cases hx:xs.find? (fun x=>x.id==id) with
   |none=>rfl
   |some x=>
    have h3:=hd x (yq hx)
    have h4:x.id=id:=by have:=List.find?_some hx;simpa using this
    exact In hd n m x.parent _ (by omega) (by omega)
theorem Lm {xs:List Ino} {id:Int} (h:id<=1):Ci xs id=ByteArray.empty:=F7 h
theorem Pe {xs:List Ino} (hd:∀x∈xs,x.parent<x.id) {n:Nat} {id:Int} {x:Ino} {t:ByteArray} (h1:1<id) (hn:id<=n) (hx:xs.find? (fun x=>x.id==id)=some x):DP xs n id t=DP xs n x.parent (Ey++x.name++t):=by
 cases n with
 |zero=>omega
 |succ n=>
  have h3:=hd x (yq hx)
  have h4:x.id=id:=by have:=List.find?_some hx;simpa using this
  rw [show DP xs (n+1) id t=DP xs n x.parent (Ey++x.name++t) from by conv=>lhs;unfold DP;rw [if_neg (by omega),hx]]
  exact In hd n (n+1) _ _ (by omega) (by omega)
theorem Io (xs:List Ino):∀(n:Nat) (id:Int) (t:ByteArray),DP xs n id t=DP xs n id ByteArray.empty++t
 |0,id,t=>by show t=ByteArray.empty++t;simp
 |n+1,id,t=>by
  unfold DP
  split
  ·simp
  ·cases xs.find? (fun x=>x.id==id) with
   |none=>simp
   |some x=>
    show DP xs n x.parent (Ey++x.name++t)=DP xs n x.parent (Ey++x.name++ByteArray.empty)++t
    rw [Io xs n x.parent (Ey++x.name++t),Io xs n x.parent (Ey++x.name++ByteArray.empty)]
    simp [ByteArray.append_assoc]
theorem Sg (kb g cap:Nat) (xs:List Ino) (id0:Int) (w:World) (h:FG w kb g cap xs) (hn:xs.length<=1000000) (ht:JJ xs) (hid:1<id0->∃y∈xs,y.id=id0) (hi:id0<=1000000):
  Calls Tryz.prog 60 #[pq kb 0,.int .i64 id0] w fun e w'=>e= .returned (.string (Ci xs id0))/\w'=w:=by
 have H:=AC h
 have HT:=AC ht
 have HID:=AC hid
 clear h ht hid
 go_enter Tryz.func60,Tryz.ntmps60
 go_wp2
 go_loop [1,5] (fun i s=>∃(id:Int) (t:ByteArray),i= .int .i64 id/\s= .string t/\id<=id0/\Hid (1<id->∃y∈xs,y.id=id)/\Hid ((t.size:Int)<=15*(id0-id))/\Hid (DP xs id0.toNat id t=Ci xs id0)) (fun i _=>(intOf i).toNat)
 case atStart=>exact ⟨id0,ByteArray.empty,rfl,rfl,by omega,HID,AC (by simp),AC rfl⟩
 case round=>
  obtain ⟨id,t,rfl,rfl,hle,HI,HS,HP⟩:=hrel
  by_cases hlt:1<id
  ·obtain ⟨x,hx⟩:=QT (AB HI hlt)
   obtain ⟨K,hK,hKx⟩:=Ev hx
   have hKl:=(zy.1 hKx).1
   have HIN:=AC (Fv kb g cap xs id w (AB H) hn)
   rw [hK] at HIN
   have c1:w.cell? (pK g (K*5+1))=some (.int .i64 x.parent):=(AB H).cell hKx (i:=1) (by omega) rfl
   have c2:w.cell? (pK g (K*5+2))=some (.string x.name):=(AB H).cell hKx (i:=2) (by omega) rfl
   have c7:=(AB H).1
   have hxm:=yq hx
   have hxi:x.id=id:=by have:=List.find?_some hx;simpa using this
   have hdn:=(AB HT).down x hxm
   have hnm:=(AB HT).names x hxm
   have HS2:=AC (show ((Ey++x.name++t).size:Int)<=15*(id0-x.parent) from by
    have h1:=AB HS
    rw [ByteArray.size_append,ByteArray.size_append]
    have h2:Ey.size=1:=rfl
    omega)
   have HP2:=AC ((Pe (AB HT).down (n:=id0.toNat) hlt (by omega) hx).symm.trans (AB HP))
   have HI2:=AC (fun h1=>(AB HT).there x hxm h1)
   have hpl:x.parent<id:=by omega
   have hts:t.size<=100000000:=by have:=AB HS;omega
   have hns:x.name.size<=100000000:=by omega
   have hK0:(0:Int)<=(K:Int):=by omega
   have hK1:(K:Int)<(xs.length:Int):=by omega
   generalize x.parent=PA at*
   generalize x.name=NA at*
   clear hx hK hKx hxm hxi hnm hdn HP HS HI
   go_wp2_with fail
   refine (AB HIN).mono ?_
   rintro e w3 ⟨rfl,hw3⟩
   subst hw3
   go_wp2
   go_round
   case rel=>exact ⟨PA,Ey++NA++t,rfl,rfl,by omega,HI2,HS2,HP2⟩
   case measure=>simp [intOf];omega
  ·have HR:=AC ((F7 (xs:=xs) (n:=id0.toNat) (t:=t) (show id<=1 by omega)).symm.trans (AB HP))
   go_wp2
   go_ret
   exact ⟨by rw [<-AB HR];rfl,rfl⟩
end
section
open Go Go.RowKit
def DS (op im a b:Int):Option Int:=
 if op=1 then some (IntKind.u64.wrap im)
 else if op=2 then some b
 else if op=3 then some (IntKind.u64.wrap (b+IntKind.u64.wrap im))
 else if op=4 then some (IntKind.u64.wrap (a+b))
 else if op=5 then some (IntKind.u64.wrap (a-b))
 else if op=6 then some (IntKind.u64.wrap (a*b))
 else if op=7 then (if b=0 then some 18446744073709551615 else some (IntKind.u64.wrap (a.tdiv b)))
 else if op=8 then (if b=0 then some a else some (a.tmod b))
 else if op=9 then some (bits .and .u64 a b)
 else if op=10 then some (bits .or .u64 a b)
 else if op=11 then some (bits .xor .u64 a b)
 else if op=12 then some (IntKind.u64.wrap (a*2^(b%64).toNat))
 else if op=13 then some (a/2^(b%64).toNat)
 else none
def Cf (op im pc a b:Int):Int:=
 if op=23 then a
 else if (op=18/\a=b)\/(op=19/\a≠b)\/(op=20/\wrap64 a<wrap64 b)\/(op=21/\a<b)\/op=22 then IntKind.u64.wrap (pc+IntKind.u64.wrap im)
 else IntKind.u64.wrap (pc+4)
theorem MZ (b:Int) (h:0<=b):0<=b.tmod 64/\b.tmod 64<=64:=by
 rw [yn h]
 omega
def Dp (op im a b:Int) (w:World) (e:Ending) (w':World):Prop:=e= .returned (.tuple #[.int .u64 ((DS op im a b).getD 0),.bool (DS op im a b).isSome])/\Below w.heap.size w w'
theorem fw (ra rb im a b:Int) (w:World) (h0:0<=b):Calls Tryz.prog 104 #[.agg #[.int .i64 1,.int .i64 ra,.int .i64 rb,.int .i64 im],.int .u64 a,.int .u64 b] w (Dp 1 im a b w):=by
 go_enter Tryz.func104,Tryz.ntmps104
 go_wp2
 exact bodyPost_ret (v:= .tuple #[.int .u64 (IntKind.u64.wrap im),.bool true]) (by simp [results,Tryz.results104,go_sem]) rfl ⟨rfl,(zw _ _).alloc (zx _) _⟩
theorem fx (ra rb im a b:Int) (w:World) (h0:0<=b):Calls Tryz.prog 104 #[.agg #[.int .i64 2,.int .i64 ra,.int .i64 rb,.int .i64 im],.int .u64 a,.int .u64 b] w (Dp 2 im a b w):=by
 go_enter Tryz.func104,Tryz.ntmps104
 go_wp2
 exact bodyPost_ret (v:= .tuple #[.int .u64 (b),.bool true]) (by simp [results,Tryz.results104,go_sem]) rfl ⟨rfl,(zw _ _).alloc (zx _) _⟩
theorem fy (ra rb im a b:Int) (w:World) (h0:0<=b):Calls Tryz.prog 104 #[.agg #[.int .i64 3,.int .i64 ra,.int .i64 rb,.int .i64 im],.int .u64 a,.int .u64 b] w (Dp 3 im a b w):=by
 go_enter Tryz.func104,Tryz.ntmps104
 go_wp2
 exact bodyPost_ret (v:= .tuple #[.int .u64 (IntKind.u64.wrap (b+IntKind.u64.wrap im)),.bool true]) (by simp [results,Tryz.results104,go_sem]) rfl ⟨rfl,(zw _ _).alloc (zx _) _⟩
theorem gA (ra rb im a b:Int) (w:World) (h0:0<=b):Calls Tryz.prog 104 #[.agg #[.int .i64 4,.int .i64 ra,.int .i64 rb,.int .i64 im],.int .u64 a,.int .u64 b] w (Dp 4 im a b w):=by
 go_enter Tryz.func104,Tryz.ntmps104
 go_wp2
 exact bodyPost_ret (v:= .tuple #[.int .u64 (IntKind.u64.wrap (a+b)),.bool true]) (by simp [results,Tryz.results104,go_sem]) rfl ⟨rfl,(zw _ _).alloc (zx _) _⟩
theorem gB (ra rb im a b:Int) (w:World) (h0:0<=b):Calls Tryz.prog 104 #[.agg #[.int .i64 5,.int .i64 ra,.int .i64 rb,.int .i64 im],.int .u64 a,.int .u64 b] w (Dp 5 im a b w):=by
 go_enter Tryz.func104,Tryz.ntmps104
 go_wp2
 exact bodyPost_ret (v:= .tuple #[.int .u64 (IntKind.u64.wrap (a-b)),.bool true]) (by simp [results,Tryz.results104,go_sem]) rfl ⟨rfl,(zw _ _).alloc (zx _) _⟩
theorem gC (ra rb im a b:Int) (w:World) (h0:0<=b):Calls Tryz.prog 104 #[.agg #[.int .i64 6,.int .i64 ra,.int .i64 rb,.int .i64 im],.int .u64 a,.int .u64 b] w (Dp 6 im a b w):=by
 go_enter Tryz.func104,Tryz.ntmps104
 go_wp2
 exact bodyPost_ret (v:= .tuple #[.int .u64 (IntKind.u64.wrap (a*b)),.bool true]) (by simp [results,Tryz.results104,go_sem]) rfl ⟨rfl,(zw _ _).alloc (zx _) _⟩
theorem gD (ra rb im a b:Int) (w:World) (h0:0<=b):Calls Tryz.prog 104 #[.agg #[.int .i64 7,.int .i64 ra,.int .i64 rb,.int .i64 im],.int .u64 a,.int .u64 b] w (Dp 7 im a b w):=by
 by_cases hb:b=0
 ·subst hb
  go_enter Tryz.func104,Tryz.ntmps104
  go_wp2
  exact bodyPost_ret (v:= .tuple #[.int .u64 (18446744073709551615),.bool true]) (by simp [results,Tryz.results104,go_sem]) rfl ⟨rfl,(zw _ _).alloc (zx _) _⟩
 ·have hq:(b==0)=false:=by simpa using hb
  have ho:DS 7 im a b=some (IntKind.u64.wrap (a.tdiv b)):=by unfold DS;simp [hb]
  go_enter Tryz.func104,Tryz.ntmps104
  go_wp2
  exact bodyPost_ret (v:= .tuple #[.int .u64 (IntKind.u64.wrap (a.tdiv b)),.bool true]) (by simp [results,Tryz.results104,go_sem]) rfl ⟨by rw [ho];rfl,(zw _ _).alloc (zx _) _⟩
theorem gE (ra rb im a b:Int) (w:World) (h0:0<=b):Calls Tryz.prog 104 #[.agg #[.int .i64 8,.int .i64 ra,.int .i64 rb,.int .i64 im],.int .u64 a,.int .u64 b] w (Dp 8 im a b w):=by
 by_cases hb:b=0
 ·subst hb
  go_enter Tryz.func104,Tryz.ntmps104
  go_wp2
  exact bodyPost_ret (v:= .tuple #[.int .u64 (a),.bool true]) (by simp [results,Tryz.results104,go_sem]) rfl ⟨rfl,(zw _ _).alloc (zx _) _⟩
 ·have hq:(b==0)=false:=by simpa using hb
  have ho:DS 8 im a b=some (a.tmod b):=by unfold DS;simp [hb]
  go_enter Tryz.func104,Tryz.ntmps104
  go_wp2
  exact bodyPost_ret (v:= .tuple #[.int .u64 (a.tmod b),.bool true]) (by simp [results,Tryz.results104,go_sem]) rfl ⟨by rw [ho];rfl,(zw _ _).alloc (zx _) _⟩
theorem gF (ra rb im a b:Int) (w:World) (h0:0<=b):Calls Tryz.prog 104 #[.agg #[.int .i64 9,.int .i64 ra,.int .i64 rb,.int .i64 im],.int .u64 a,.int .u64 b] w (Dp 9 im a b w):=by
 go_enter Tryz.func104,Tryz.ntmps104
 go_wp2
 exact bodyPost_ret (v:= .tuple #[.int .u64 (bits .and .u64 a b),.bool true]) (by simp [results,Tryz.results104,go_sem]) rfl ⟨rfl,(zw _ _).alloc (zx _) _⟩
theorem fA (ra rb im a b:Int) (w:World) (h0:0<=b):Calls Tryz.prog 104 #[.agg #[.int .i64 10,.int .i64 ra,.int .i64 rb,.int .i64 im],.int .u64 a,.int .u64 b] w (Dp 10 im a b w):=by
 go_enter Tryz.func104,Tryz.ntmps104
 go_wp2
 exact bodyPost_ret (v:= .tuple #[.int .u64 (bits .or .u64 a b),.bool true]) (by simp [results,Tryz.results104,go_sem]) rfl ⟨rfl,(zw _ _).alloc (zx _) _⟩
theorem fB (ra rb im a b:Int) (w:World) (h0:0<=b):Calls Tryz.prog 104 #[.agg #[.int .i64 11,.int .i64 ra,.int .i64 rb,.int .i64 im],.int .u64 a,.int .u64 b] w (Dp 11 im a b w):=by
 go_enter Tryz.func104,Tryz.ntmps104
 go_wp2
 exact bodyPost_ret (v:= .tuple #[.int .u64 (bits .xor .u64 a b),.bool true]) (by simp [results,Tryz.results104,go_sem]) rfl ⟨rfl,(zw _ _).alloc (zx _) _⟩
theorem fC (ra rb im a b:Int) (w:World) (h0:0<=b):Calls Tryz.prog 104 #[.agg #[.int .i64 12,.int .i64 ra,.int .i64 rb,.int .i64 im],.int .u64 a,.int .u64 b] w (Dp 12 im a b w):=by
 have hs0:=(MZ b h0).1
 have hs1:=(MZ b h0).2
 go_enter Tryz.func104,Tryz.ntmps104
 go_wp2
 exact bodyPost_ret (v:= .tuple #[.int .u64 (IntKind.u64.wrap (a*2^(b%64).toNat)),.bool true]) (by simp [results,Tryz.results104,go_sem]) rfl ⟨rfl,(zw _ _).alloc (zx _) _⟩
theorem fD (ra rb im a b:Int) (w:World) (h0:0<=b):Calls Tryz.prog 104 #[.agg #[.int .i64 13,.int .i64 ra,.int .i64 rb,.int .i64 im],.int .u64 a,.int .u64 b] w (Dp 13 im a b w):=by
 have hs0:=(MZ b h0).1
 have hs1:=(MZ b h0).2
 go_enter Tryz.func104,Tryz.ntmps104
 go_wp2
 exact bodyPost_ret (v:= .tuple #[.int .u64 (a/2^(b%64).toNat),.bool true]) (by simp [results,Tryz.results104,go_sem]) rfl ⟨rfl,(zw _ _).alloc (zx _) _⟩
theorem ah (op ra rb im a b:Int) (w:World) (h:14<=op):Calls Tryz.prog 104 #[.agg #[.int .i64 op,.int .i64 ra,.int .i64 rb,.int .i64 im],.int .u64 a,.int .u64 b] w (Dp op im a b w):=by
 have ho:DS op im a b=none:=by
  unfold DS
  repeat (rw [if_neg (by omega)])
 have h1:(op==1)=false:=by simp;omega
 have h2:(op==2)=false:=by simp;omega
 have h3:(op==3)=false:=by simp;omega
 have h4:(op==4)=false:=by simp;omega
 have h5:(op==5)=false:=by simp;omega
 have h6:(op==6)=false:=by simp;omega
 have h7:(op==7)=false:=by simp;omega
 have h8:(op==8)=false:=by simp;omega
 have h9:(op==9)=false:=by simp;omega
 have h10:(op==10)=false:=by simp;omega
 have h11:(op==11)=false:=by simp;omega
 have h12:(op==12)=false:=by simp;omega
 have h13:(op==13)=false:=by simp;omega
 go_enter Tryz.func104,Tryz.ntmps104
 go_wp2
 exact bodyPost_ret (v:= .tuple #[.int .u64 (0),.bool false]) (by simp [results,Tryz.results104,go_sem]) rfl ⟨by rw [ho];rfl,(zw _ _).alloc (zx _) _⟩
theorem dG (op ra rb im a b:Int) (w:World) (h0:0<=b) (h:1<=op):Calls Tryz.prog 104 #[.agg #[.int .i64 op,.int .i64 ra,.int .i64 rb,.int .i64 im],.int .u64 a,.int .u64 b] w (Dp op im a b w):=by
 by_cases h1:op=1
 ·subst h1;exact fw ra rb im a b w h0
 by_cases h2:op=2
 ·subst h2;exact fx ra rb im a b w h0
 by_cases h3:op=3
 ·subst h3;exact fy ra rb im a b w h0
 by_cases h4:op=4
 ·subst h4;exact gA ra rb im a b w h0
 by_cases h5:op=5
 ·subst h5;exact gB ra rb im a b w h0
 by_cases h6:op=6
 ·subst h6;exact gC ra rb im a b w h0
 by_cases h7:op=7
 ·subst h7;exact gD ra rb im a b w h0
 by_cases h8:op=8
 ·subst h8;exact gE ra rb im a b w h0
 by_cases h9:op=9
 ·subst h9;exact gF ra rb im a b w h0
 by_cases h10:op=10
 ·subst h10;exact fA ra rb im a b w h0
 by_cases h11:op=11
 ·subst h11;exact fB ra rb im a b w h0
 by_cases h12:op=12
 ·subst h12;exact fC ra rb im a b w h0
 by_cases h13:op=13
 ·subst h13;exact fD ra rb im a b w h0
 exact ah op ra rb im a b w (by omega)
theorem YQ (op ra rb im pc a b:Int) (w:World) (h:18<=op):Calls Tryz.prog 107 #[.agg #[.int .i64 op,.int .i64 ra,.int .i64 rb,.int .i64 im],.int .u64 pc,.int .u64 a,.int .u64 b] w fun e w'=>e= .returned (.int .u64 (Cf op im pc a b))/\Below w.heap.size w w':=by
 by_cases h23:op=23
 ·subst h23
  go_enter Tryz.func107,Tryz.ntmps107
  go_wp2
  go_ret
  exact ⟨rfl,(zw _ _).alloc (zx _) _⟩
 by_cases hc:(op=18/\a=b)\/(op=19/\a≠b)\/(op=20/\wrap64 a<wrap64 b)\/(op=21/\a<b)\/op=22
 ·have ho:Cf op im pc a b=IntKind.u64.wrap (pc+IntKind.u64.wrap im):=by unfold Cf;rw [if_neg h23,if_pos hc]
  rcases hc with ⟨rfl,hx⟩|⟨rfl,hx⟩|⟨rfl,hx⟩|⟨rfl,hx⟩|rfl
  ·subst hx
   go_enter Tryz.func107,Tryz.ntmps107
   go_wp2
   go_ret
   exact ⟨by rw [ho];rfl,(zw _ _).alloc (zx _) _⟩
  ·have hq:(a==b)=false:=by simpa using hx
   have hq2:(a !=b)=true:=by simpa using hx
   go_enter Tryz.func107,Tryz.ntmps107
   go_wp2
   go_ret
   exact ⟨by rw [ho];rfl,(zw _ _).alloc (zx _) _⟩
  ·have hq:decide (wrap64 a<wrap64 b)=true:=decide_eq_true hx
   go_enter Tryz.func107,Tryz.ntmps107
   go_wp2
   go_ret
   exact ⟨by rw [ho];rfl,(zw _ _).alloc (zx _) _⟩
  ·have hq:decide (a<b)=true:=decide_eq_true hx
   go_enter Tryz.func107,Tryz.ntmps107
   go_wp2
   go_ret
   exact ⟨by rw [ho];rfl,(zw _ _).alloc (zx _) _⟩
  ·go_enter Tryz.func107,Tryz.ntmps107
   go_wp2
   go_ret
   exact ⟨by rw [ho];rfl,(zw _ _).alloc (zx _) _⟩
 ·have ho:Cf op im pc a b=IntKind.u64.wrap (pc+4):=by unfold Cf;rw [if_neg h23,if_neg hc]
  have q1:op=18->(a==b)=false:=fun e=>by simp only [beq_eq_false_iff_ne];exact fun e2=>hc (.inl ⟨e,e2⟩)
  have q2:op=19->a=b:=fun e=>Classical.byContradiction fun e2=>hc (.inr (.inl ⟨e,e2⟩))
  have q3:op=20->decide (wrap64 a<wrap64 b)=false:=fun e=>decide_eq_false fun e2=>hc (.inr (.inr (.inl ⟨e,e2⟩)))
  have q4:op=21->decide (a<b)=false:=fun e=>decide_eq_false fun e2=>hc (.inr (.inr (.inr (.inl ⟨e,e2⟩))))
  have q5:op≠22:=fun e=>hc (.inr (.inr (.inr (.inr e))))
  clear hc
  by_cases h18:op=18
  ·subst h18
   have hq:=q1 rfl
   clear q1 q2 q3 q4 q5
   go_enter Tryz.func107,Tryz.ntmps107
   go_wp2
   go_ret
   exact ⟨by rw [ho];rfl,(zw _ _).alloc (zx _) _⟩
  by_cases h19:op=19
  ·subst h19
   obtain rfl:=q2 rfl
   clear q1 q2 q3 q4 q5
   go_enter Tryz.func107,Tryz.ntmps107
   go_wp2
   go_ret
   exact ⟨by rw [ho];rfl,(zw _ _).alloc (zx _) _⟩
  by_cases h20:op=20
  ·subst h20
   have hq:=q3 rfl
   clear q1 q2 q3 q4 q5
   go_enter Tryz.func107,Tryz.ntmps107
   go_wp2
   go_ret
   exact ⟨by rw [ho];rfl,(zw _ _).alloc (zx _) _⟩
  by_cases h21:op=21
  ·subst h21
   have hq:=q4 rfl
   clear q1 q2 q3 q4 q5
   go_enter Tryz.func107,Tryz.ntmps107
   go_wp2
   go_ret
   exact ⟨by rw [ho];rfl,(zw _ _).alloc (zx _) _⟩
  have h1:(op==18)=false:=by simpa using h18
  have h2:(op==19)=false:=by simpa using h19
  have h3:(op==20)=false:=by simpa using h20
  have h4:(op==21)=false:=by simpa using h21
  have h5:(op==22)=false:=by simpa using q5
  have h6:(op==23)=false:=by simpa using h23
  clear q1 q2 q3 q4 q5
  go_enter Tryz.func107,Tryz.ntmps107
  go_wp2
  go_ret
  exact ⟨by rw [ho];rfl,(zw _ _).alloc (zx _) _⟩
end
section
open Go.RowKit Go.Extern.Stop Go.Stop Go.Extern
theorem Tryz.typeOfC (v:Value) (w:World):(ReflectliteType.typeOf #[.iface 332 v]).run Tryz.prog w= .ok (.iface 206 (.agg #[pq 6 332])) w:=by kernel_rfl
theorem Tryz.assignableC (w:World):(ReflectliteType.relation "AssignableTo" ReflectliteType.assignableTo #[.agg #[pq 6 332],.iface 206 (.agg #[pq 6 47])]).run Tryz.prog w= .ok (.bool false) w:=by kernel_rfl
theorem Tryz.asC (v:Value) (w:World):(Instr.typeAssert (.iface 332 v) 41 211 true).run Tryz.prog w= .ok (.tuple #[.nilIface,.bool false]) w:=run_typeAssert_lacksB Tryz.underlying211 (by kernel_rfl) (by kernel_rfl) v _ w
theorem Tryz.unC (v:Value) (w:World):(Instr.typeAssert (.iface 332 v) 41 214 true).run Tryz.prog w= .ok (.tuple #[.iface 332 v,.bool true]) w:=run_typeAssert_hasB Tryz.underlying214 (by kernel_rfl) v _ w
theorem Tryz.methodUnwrap (h:Value) (w:World):(Go.method 711 332 h "Unwrap").run Tryz.prog w= .ok (500,h) w:=by kernel_rfl
theorem df (n:Int) (q:Nat) (t:Addr) (old:Value) (w:World) (hg:w.cell? (pK 0 0)=some (.iface 206 (.agg #[pq 6 41]))) (ht0:w.cell? t=some old) (hf0:w.frozen? t=false) (hq:w.cell? (pK q 1)=some (.int .i64 n)):
  Calls Tryz.prog 14 #[.iface 332 (pq q 0),.iface 64 (.pointer (some t))] w fun ev w'=>ev= .returned (.bool true)/\w'=((((w.alloc (.cells #[.pointer (some t)] 64)).alloc (.cells #[pq 6 64,pq w.heap.size 0,.int .u64 150] 117)).alloc (.cells #[pq 6 64,pq w.heap.size 0,.int .u64 150] 117)).alloc (.cells #[.int .i64 n] 47)).setCell t (.int .i64 n):=by
 have h6:= @run_callFunc_extern Tryz.prog 36 _ (fun args=>ReflectliteValue.unpack (args.getD 0 (.tuple #[]))) Tryz.func36 (by kernel_rfl) (by kernel_rfl) (by kernel_rfl) (by kernel_rfl)
 have h7:= @run_callFunc_extern Tryz.prog 37 _ (ReflectliteValue.methodAny (ReflectliteValue.valueError "reflectlite.Value.Type" 0) (fun t _ _ _=>ReflectliteType.toType t)) Tryz.func37 (by kernel_rfl) (by kernel_rfl) (by kernel_rfl) (by kernel_rfl)
 have h8:= @run_callFunc_extern Tryz.prog 38 _ (ReflectliteValue.method (ReflectliteValue.valueError "reflectlite.Value.IsNil" 0) ReflectliteValue.isNil) Tryz.func38 (by kernel_rfl) (by kernel_rfl) (by kernel_rfl) (by kernel_rfl)
 have h27:= @run_callFunc_extern Tryz.prog 467 _ (ReflectliteType.abiMethod fun t=>do pure (.int .u8 (<-Rtype.kind t))) Tryz.func467 (by kernel_rfl) (by kernel_rfl) (by kernel_rfl) (by kernel_rfl)
 have h37:= @run_callFunc_extern Tryz.prog 487 _ (ReflectliteType.method ReflectliteType.elem) Tryz.func487 (by kernel_rfl) (by kernel_rfl) (by kernel_rfl) (by kernel_rfl)
 have h38:= @run_callFunc_extern Tryz.prog 488 _ (ReflectliteType.relation "Implements" ReflectliteType.implements_) Tryz.func488 (by kernel_rfl) (by kernel_rfl) (by kernel_rfl) (by kernel_rfl)
 have h10:= @run_callFunc_extern Tryz.prog 77 _ ReflectliteType.typeOf Tryz.func77 (by kernel_rfl) (by kernel_rfl) (by kernel_rfl) (by kernel_rfl)
 have h35:= @run_callFunc_extern Tryz.prog 485 _ (ReflectliteType.relation "AssignableTo" ReflectliteType.assignableTo) Tryz.func485 (by kernel_rfl) (by kernel_rfl) (by kernel_rfl) (by kernel_rfl)
 have h11:= @run_callFunc_extern Tryz.prog 78 _ (ReflectliteValue.method (ReflectliteValue.valueError "reflectlite.Value.Elem" 0) ReflectliteValue.elem) Tryz.func78 (by kernel_rfl) (by kernel_rfl) (by kernel_rfl) (by kernel_rfl)
 have h12:= @run_callFunc_extern Tryz.prog 79 _ ReflectliteValue.set Tryz.func79 (by kernel_rfl) (by kernel_rfl) (by kernel_rfl) (by kernel_rfl)
 have tO:=Tryz.typeOfE
 have tC:=Tryz.typeOfC
 have aC:=Tryz.assignableC
 have asC:=Tryz.asC
 have unC:=Tryz.unC
 have mU:=Tryz.methodUnwrap
 have mA:=Tryz.methodAssignableTo
 have a25:=Tryz.assignableE
 have v25:=Tryz.valueOfE
 have f6:=Tryz.valueOfP
 have f7:=Tryz.typeP
 have mK:=Tryz.methodKind
 have mE:=Tryz.methodElem
 have mI:=Tryz.methodImplements
 have k27:=Tryz.kindP
 have k25:=Tryz.kindE
 have e27:=Tryz.elemP
 have i25:=Tryz.implementsE
 have n8:=Tryz.isNilP (pK w.heap.size 0) t ((w.alloc (.cells #[.pointer (some t)] 64)).alloc (.cells #[pq 6 64,pq w.heap.size 0,.int .u64 150] 117)) (by simp)
 have hlt:0<w.heap.size:=by
  rcases Nat.eq_zero_or_pos w.heap.size with h0|h
  ·simp [World.cell?,h0] at hg
  ·exact h
 have hg2:((w.alloc (.cells #[.pointer (some t)] 64)).alloc (.cells #[pq 6 64,pq w.heap.size 0,.int .u64 150] 117)).cell? (pK 0 0)=some (.iface 206 (.agg #[pq 6 41])):=by
  rw [World.cell?_alloc_lt _ _ (pK 0 0) (by simp),World.cell?_alloc_lt _ _ (pK 0 0) hlt];exact hg
 have htl:t.block<w.heap.size:=by
  rcases Nat.lt_or_ge t.block w.heap.size with h|h
  ·exact h
  ·simp [World.cell?,Array.getElem?_eq_none h] at ht0
 have el:=Tryz.elemVP (pK w.heap.size 0) t (((w.alloc (.cells #[.pointer (some t)] 64)).alloc (.cells #[pq 6 64,pq w.heap.size 0,.int .u64 150] 117)).alloc (.cells #[pq 6 64,pq w.heap.size 0,.int .u64 150] 117)) (by rw [World.cell?_alloc_lt _ _ (pK w.heap.size 0) (by simp;omega)];simp)
 have st:=Tryz.setE t (pK (w.heap.size+1+1+1) 0) n old ((((w.alloc (.cells #[.pointer (some t)] 64)).alloc (.cells #[pq 6 64,pq w.heap.size 0,.int .u64 150] 117)).alloc (.cells #[pq 6 64,pq w.heap.size 0,.int .u64 150] 117)).alloc (.cells #[.int .i64 n] 47))
  (by rw [World.cell?_alloc_at _ _ _ _ (by simp)];rfl)
  (by rw [World.cell?_alloc_lt _ _ t (by simp;omega),World.cell?_alloc_lt _ _ t (by simp;omega),World.cell?_alloc_lt _ _ t (by simp;omega),World.cell?_alloc_lt _ _ t htl];exact ht0)
  (by rw [World.frozen?_alloc_old _ _ t (by simp;omega),World.frozen?_alloc_old _ _ t (by simp;omega),World.frozen?_alloc_old _ _ t (by simp;omega),World.frozen?_alloc_old _ _ t (Nat.ne_of_lt htl)];exact hf0)
 have hql:q<w.heap.size:=zu w _ hq
 have hq3:(((w.alloc (.cells #[.pointer (some t)] 64)).alloc (.cells #[pq 6 64,pq w.heap.size 0,.int .u64 150] 117)).alloc (.cells #[pq 6 64,pq w.heap.size 0,.int .u64 150] 117)).cell? (pK q 1)=some (.int .i64 n):=by
  rw [World.cell?_alloc_lt _ _ (pK q 1) (by simp;omega),World.cell?_alloc_lt _ _ (pK q 1) (by simp;omega),World.cell?_alloc_lt _ _ (pK q 1) hql];exact hq
 clear hq
 go_enter Tryz.func14,Tryz.ntmps14
 go_wp2
 refine wp_loop_rounds 2 ?_
 rw [rounds_succ]
 go_wp2
 rw [rounds_succ]
 go_wp2
 go_ret
 exact ⟨rfl,rfl⟩
theorem Ya (n:Int) (q:Nat) (w:World) (hq:w.cell? (pK q 1)=some (.int .i64 n)) (hg:w.cell? (pK 0 0)=some (.iface 206 (.agg #[pq 6 41]))):
  Calls Tryz.prog 8 #[.iface 332 (pq q 0)] w fun e w'=>e= .returned (.int .i64 n)/\Below w.heap.size w w':=by
 have hlt:0<w.heap.size:=by
  rcases Nat.eq_zero_or_pos w.heap.size with h0|h
  ·simp [World.cell?,h0] at hg
  ·exact h
 have hgA:(w.alloc (.cells #[.int .i64 0] 47)).cell? (pK 0 0)=some (.iface 206 (.agg #[pq 6 41])):=by
  rw [World.cell?_alloc_lt _ _ (pK 0 0) hlt];exact hg
 have hqA:(w.alloc (.cells #[.int .i64 0] 47)).cell? (pK q 1)=some (.int .i64 n):=by
  rw [World.cell?_alloc_lt _ _ (pK q 1) (zu w _ hq)];exact hq
 have htA:(w.alloc (.cells #[.int .i64 0] 47)).cell? (pK w.heap.size 0)=some (.int .i64 0):=by simp
 have hfA:(w.alloc (.cells #[.int .i64 0] 47)).frozen? (pK w.heap.size 0)=false:=by simp
 go_enter Tryz.func8,Tryz.ntmps8
 go_wp2_with (go_at_call 14;refine (df n q _ (.int .i64 0) _ hgA htA hfA hqA).mono ?_;rintro e w' ⟨rfl,rfl⟩)
 go_ret
 refine ⟨rfl,?_⟩
 exact (((((zw _ _).alloc (zx _) _).alloc (by simp) _).alloc (by simp;omega) _).alloc (by simp;omega) _).alloc (by simp;omega) _
end
end Go.Proofs.YtdchgbmliojoiaaGreatDoor
