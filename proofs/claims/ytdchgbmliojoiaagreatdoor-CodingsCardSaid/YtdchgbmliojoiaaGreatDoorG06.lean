import Derived.Test.YtdchgbmliojoiaaGreatDoorG02
import Derived.Deep.QuietTactic
import Derived.BigQuiet
import Derived.RegionTactic
import Derived.ChangeAlike
import Derived.BigRegion
set_option maxRecDepth 100000
set_option maxHeartbeats 4000000
set_option linter.unusedVariables false
set_option linter.unusedSimpArgs false
namespace Go.Proofs.YtdchgbmliojoiaaGreatDoor
open Go.RowKit
def CI (xs:List Ino) (n:Int):Bool:=match xs.find? (fun x=>x.id==n) with|some x=>x.dir|none=>false
structure QN where
 dir:Int
 name:ByteArray
 n:Int
 e:Int
def DU (e:Int):QN:=⟨0,ByteArray.empty,0,e⟩
def CM (xs:List Ino):Int->List ByteArray->QN
 |_,[]=>DU 0
 |dir,[name]=>⟨dir,name,Ax xs dir name,0⟩
 |dir,name::b::r=>if Ax xs dir name=0 then DU 9 else if CI xs (Ax xs dir name)=true then CM xs (Ax xs dir name) (b::r) else DU 11
def AN (xs:List Ino) (s:ByteArray):QN:=match Ar s with
 |none=>DU 8
 |some []=>⟨0,ByteArray.empty,1,0⟩
 |some (a::r)=>CM xs 1 (a::r)
def MU (r:QN):Ending:= .returned (.tuple #[.int .i64 r.dir,.string r.name,.int .i64 r.n,.int .i64 r.e])
theorem Ev {xs:List Ino} {n:Int} {x:Ino} (h:xs.find? (fun x=>x.id==n)=some x):∃k:Nat,BK xs n=k/\xs[k]? =some x:=by
 obtain ⟨he,k,hk,hx,hlt⟩:=List.find?_eq_some_iff_getElem.1 h
 refine ⟨k,Jm (x:=x) (by rw [zz hk,hx]) he (fun j y hj hy=> ?_),by rw [zz hk,hx]⟩
 have h1:=hlt j hj
 have hj2:j<xs.length:=by omega
 rw [zz hj2] at hy
 rw [<-zr hy]
 simpa using h1
theorem PZ {xs:List Ino} {dir:Int} {name:ByteArray} (h:Ax xs dir name≠0):∃x,xs.find? (fun x=>x.id==Ax xs dir name)=some x:=by
 have:∃y∈xs,y.id=Ax xs dir name:=by
  unfold Ax at h ⊢
  cases hf:xs.find? (Az dir name) with
  |none=>rw [hf] at h;exact absurd rfl h
  |some y=>exact ⟨y,yq hf,rfl⟩
 obtain ⟨y,hy,he⟩:=this
 cases hf:xs.find? (fun x=>x.id==Ax xs dir name) with
 |some x=>exact ⟨x,rfl⟩
 |none=>
  have:=xv.1 hf y hy
  simp [he] at this
theorem FG.below {w w':World} {kb g cap:Nat} {xs:List Ino} (h:FG w kb g cap xs) (hb:Below w.heap.size w w') (h1:kb<w.heap.size) (h2:g<w.heap.size):FG w' kb g cap xs:=
 ⟨by rw [hb.cell (p:=(pK kb 7)) h1];exact h.1,fun j v hj=>by rw [hb.cell (p:=(pK g (0+j))) h2];exact h.2 j v hj⟩
theorem FG.heap {w w':World} {kb g cap:Nat} {xs:List Ino} (h:FG w kb g cap xs) (hh:w'.heap=w.heap):FG w' kb g cap xs:=by
 have hc:∀a,w'.cell? a=w.cell? a:=fun a=>by unfold World.cell?;rw [hh]
 exact ⟨by rw [hc];exact h.1,fun j v hj=>by rw [hc];exact h.2 j v hj⟩
theorem Rx {α:Type} {l:List α} {k:Nat} (h:k+1<l.length):∃a b r,l[k]? =some a/\l.drop k=a::b::r/\l.drop (k+1)=b::r:=by
 refine ⟨l[k],l[k+1],l.drop (k+2),zz (by omega),?_,?_⟩
 ·rw [List.drop_eq_getElem_cons (by omega),List.drop_eq_getElem_cons h]
 ·rw [List.drop_eq_getElem_cons h]
theorem XJ (l:List UInt8):∀word,(parts l word).length<=l.length+1:=by
 induction l with
 |nil=>intro word;simp [parts]
 |cons c r ih=>
  intro word
  unfold parts
  split
  ·have:=ih [];simp;omega
  ·have:=ih (word++[c]);simp;omega
theorem XL {s:ByteArray} {l:List ByteArray} (h:Ar s=some l):l.length<=100:=by
 unfold Ar at h
 split at h
 ·cases h
 rename_i hc
 split at h
 ·obtain rfl:=zr h;simp
 split at h
 ·obtain rfl:=zr h
  have h1:s.size<=60:=by
   apply Classical.byContradiction
   intro hx
   exact hc (.inl (by omega))
  have h2:=XJ (s.data.toList.drop 1) []
  have h3:(s.data.toList.drop 1).length<=s.size:=by simp
  rw [An,zc];omega
 ·cases h
theorem La {l:List ByteArray} {k:Nat} {a:ByteArray} (h:l[k]? =some a):(CV l)[k]? =some (.string a):=by simp [CV,h]
theorem IZ (kb g cap:Nat) (xs:List Ino) (s:ByteArray) (w:World) (h:FG w kb g cap xs) (h1:kb<w.heap.size) (h2:g<w.heap.size) (hn:xs.length<=1000000) (hs:s.size<=maxLen):
  Calls Tryz.prog 81 #[pq kb 0,.string s] w fun e w'=>e=MU (AN xs s)/\Below w.heap.size w w':=by
 have H:=AC h
 have HN:=AC (QM s w hs)
 clear h hs
 go_enter Tryz.func81,Tryz.ntmps81
 go_wp2_with fail
 refine (AB HN).mono ?_
 rintro e w1 ⟨(⟨hno,rfl⟩|⟨l,hl,v,rfl,how⟩),hb1⟩
 ·have HR:=AC (show AN xs s=DU 8 by unfold AN;rw [hno])
  have HB1:=AC hb1
  clear hno hb1
  go_wp2
  exact bodyPost_ret (v:= .tuple #[.int .i64 0,.string ByteArray.empty,.int .i64 0,.int .i64 8]) (by simp [results,Tryz.results81,go_sem];rfl) rfl ⟨by rw [AB HR];rfl,AB HB1⟩
 have HB1:=AC hb1
 have HI1:=AC ((AB H).below hb1 h1 h2)
 have hs1:=hb1.size
 clear hb1
 cases l with
 |nil=>
  have HR:=AC (show AN xs s=⟨0,ByteArray.empty,1,0⟩ by unfold AN;rw [hl])
  have hv:∃a c,v= .slice a 0 c:=by
   rcases how.2 with ⟨hv,_⟩|⟨gg,cc,cur,hv,_⟩
   ·exact ⟨none,0,hv⟩
   ·exact ⟨_,_,hv⟩
  obtain ⟨a,c,rfl⟩:=hv
  clear hl how
  go_wp2
  exact bodyPost_ret (v:= .tuple #[.int .i64 0,.string ByteArray.empty,.int .i64 1,.int .i64 0]) (by simp [results,Tryz.results81,go_sem];rfl) rfl ⟨by rw [AB HR];rfl,AB HB1⟩
 |cons a0 r0=>
  have hr:AN xs s=CM xs 1 (a0::r0):=by unfold AN;rw [hl]
  obtain ⟨l,hlL⟩:∃l,l=a0::r0:=⟨_,rfl⟩
  rw [<-hlL] at how hr hl
  have hlen:1<=l.length:=by rw [hlL];simp
  have hl60:l.length<=100:=XL hl
  obtain ⟨gl,cl,rfl,hgl,hgs⟩:=how.form (by omega)
  have HR:=AC hr
  have HOW:=AC how
  have hq0:((l.length:Int)==0)=false:=by rw [beq_eq_false_iff_ne];omega
  clear hl how hlL hr
  go_wp2
  go_loopw [10,11] (fun dv i wr=>∃k:Nat,∃D:Int,k+1<=l.length/\i= .int .i64 k/\dv= .int .i64 D/\Hid (AN xs s=CM xs D (l.drop k))/\Hid (wr.heap=w1.heap)/\Hid (Below w.heap.size w wr)) (fun _ i _=>l.length-(intOf i).toNat)
  case atStart=>exact ⟨0,1,by omega,rfl,rfl,HR,AC rfl,HB1⟩
  case round=>
   obtain ⟨k,D,hk,rfl,rfl,HF,HHE,HBL⟩:=hrel
   have hcells:∀a,wr.cell? a=w1.cell? a:=fun a=>by unfold World.cell?;rw [AB HHE]
   have HIr:=AC ((AB HI1).heap (AB HHE))
   by_cases hlt:k+1<l.length
   ·obtain ⟨a,b,r,ha,hd1,hd2⟩:=Rx hlt
    have c0:wr.cell? (pK gl k)=some (.string a):=by
     rw [hcells,(AB HOW).cellAt _ (by omega)];exact La ha
    have hf:=AB HF
    rw [hd1] at hf
    unfold CM at hf
    have HF1:=AC hf
    have HD2:=AC hd2
    have HCH:=AC (fun w' (hh:w'.heap=w1.heap)=>KN kb g cap xs D a w' ((AB HI1).heap hh) hn)
    obtain ⟨n,hnn⟩:∃n,n=Ax xs D a:=⟨_,rfl⟩
    rw [<-hnn] at HF1 HCH
    have hk0:(0:Int)<=(k:Int):=by omega
    have hk1:(k:Int)<(l.length:Int):=by omega
    have hk2:(k:Int)<(l.length:Int)-1:=by omega
    have HNN:=AC hnn
    clear hcells ha hd1 hd2 hf hnn
    go_wp2_with fail
    refine (AB HCH wr (AB HHE)).mono ?_
    rintro e w2 ⟨rfl,hw2⟩
    subst hw2
    by_cases hz:n=0
    ·have g1:(n==0)=true:=by simpa using hz
     have HR2:=AC (show AN xs s=DU 9 by rw [AB HF1,if_pos hz])
     clear hz
     go_wp2
     exact bodyPost_ret (v:= .tuple #[.int .i64 0,.string ByteArray.empty,.int .i64 0,.int .i64 9]) (by simp [results,Tryz.results81,go_sem];try rfl) rfl ⟨by rw [AB HR2];rfl,AB HBL⟩
    ·have g1:(n==0)=false:=by simpa using hz
     obtain ⟨x,hx⟩:=PZ (xs:=xs) (dir:=D) (name:=a) (by rw [<-AB HNN];exact hz)
     rw [<-AB HNN] at hx
     obtain ⟨K,hK,hKx⟩:=Ev hx
     have hKl:=(zy.1 hKx).1
     have HIN:=AC (Fv kb g cap xs n w2 (AB HIr) hn)
     rw [hK] at HIN
     have hdf:CI xs n=x.dir:=by unfold CI;rw [hx]
     have c3:w2.cell? (pK g (K*5+3))=some (.bool x.dir):=(AB HIr).cell hKx (i:=3) (by omega) rfl
     have c7:=(AB HIr).1
     have hf1:=AB HF1
     rw [if_neg hz,hdf] at hf1
     have HF2:=AC hf1
     have hK0:(0:Int)<=(K:Int):=by omega
     have hK1:(K:Int)<(xs.length:Int):=by omega
     generalize x.dir=DD at c3 HF2
     clear hz hx hK hKx hdf hf1
     go_wp2_with fail
     refine (AB HIN).mono ?_
     rintro e w3 ⟨rfl,hw3⟩
     subst hw3
     cases DD
     ·have HR2:=AC (show AN xs s=DU 11 by rw [AB HF2];rfl)
      go_wp2
      exact bodyPost_ret (v:= .tuple #[.int .i64 0,.string ByteArray.empty,.int .i64 0,.int .i64 11]) (by simp [results,Tryz.results81,go_sem];try rfl) rfl ⟨by rw [AB HR2];rfl,AB HBL⟩
     ·have HR2:=AC (show AN xs s=CM xs n (l.drop (k+1)) by rw [AB HF2,AB HD2];rfl)
      go_wp2
      go_roundw
      case rel=>exact ⟨k+1,n,by omega,by go_num,rfl,HR2,HHE,HBL⟩
      case measure=>simp [intOf];omega
   ·have hke:k+1=l.length:=by omega
    obtain ⟨a,ha⟩:∃a,l[k]? =some a:=⟨_,zz (by omega)⟩
    have hdr:l.drop k=[a]:=by
     have hkl:k<l.length:=by omega
     rw [List.drop_eq_getElem_cons hkl,yg (by omega)]
     rw [zz hkl] at ha
     rw [zr ha]
    have c0:wr.cell? (pK gl k)=some (.string a):=by
     rw [hcells,(AB HOW).cellAt _ (by omega)];exact La ha
    have hf:=AB HF
    rw [hdr] at hf
    have HR2:=AC (show AN xs s=⟨D,a,Ax xs D a,0⟩ from hf)
    have HCH:=AC (KN kb g cap xs D a wr (AB HIr) hn)
    have e1:(l.length:Int)-1=(k:Int):=by omega
    have hk0:(0:Int)<=(k:Int):=by omega
    have hk1:(k:Int)<(l.length:Int):=by omega
    generalize Ax xs D a=n at HR2 HCH
    clear hcells ha hdr hf hlt
    go_wp2_with fail
    refine (AB HCH).mono ?_
    rintro e w2 ⟨rfl,hw2⟩
    subst hw2
    go_wp2
    exact bodyPost_ret (v:= .tuple #[.int .i64 D,.string a,.int .i64 n,.int .i64 0]) (by simp [results,Tryz.results81,go_sem];try rfl) rfl ⟨by rw [AB HR2];rfl,AB HBL⟩
structure RK where
 lp:Int
 lf:Int
 lo:Int
 li:Int
 lb:Int
 pv:Value
 ov:Value
 cv:Value
 tv:Value
 uv:Value
 mv:Value
 inos:List Ino
 last:Int
def RK.cells (k:RK) (v:Value):List Value:=[.int .i64 k.lp,.int .i64 k.lf,.int .i64 k.lo,.int .i64 k.li,.int .i64 k.lb,k.pv,k.ov,v,k.cv,k.tv,k.uv,k.mv,.int .i64 k.last]
def D9 (w:World) (base kb g cap:Nat) (k:RK):Prop:=
 AG w kb 87 (k.cells (.slice (some (pK g 0)) k.inos.length cap))/\w.ownsRow base 128 5 (.slice (some (pK g 0)) k.inos.length cap) k.inos.length (B0 k.inos)
theorem Oa (xs:List Ino):(B0 xs).length=xs.length*5:=by
 unfold B0
 induction xs with
 |nil=>rfl
 |cons x r ih=>rw [List.flatMap_cons,zn,ih];simp [BJ];omega
theorem D9.at {w:World} {base kb g cap:Nat} {k:RK} (h:D9 w base kb g cap k):FG w kb g cap k.inos:=
 ⟨h.1.cell rfl,fun j v hj=>by
  have hl:=(zy.1 hj).1
  rw [Oa] at hl
  rw [zq,h.2.cellAt j hl];exact hj⟩
structure Al (w w':World) (a b:Nat):Prop where
 os:w'.os=w.os
 tape:w'.tape=w.tape
 output:w'.output=w.output
 size:w.heap.size<=w'.heap.size
 block:∀k,k<w.heap.size->k≠a->k≠b->w'.heap[k]? =w.heap[k]?
theorem Al.refl (w:World) (a b:Nat):Al w w a b:=⟨rfl,rfl,rfl,zx _,fun _ _ _ _=>rfl⟩
theorem Al.ofBelow {w w':World} {a b:Nat} (h:Below w.heap.size w w'):Al w w' a b:=⟨h.os,h.tape,h.output,h.size,fun k hk _ _=>h.block k hk⟩
theorem Al.below {w w':World} {a b B:Nat} (h:Al w w' a b) (ha:B<=a) (hb:B<=b) (hB:B<=w.heap.size):Below B w w':=⟨h.os,h.tape,h.output,h.size,fun k hk=>h.block k (by omega) (by omega) (by omega)⟩
theorem Al.grownL {w w' w'':World} {a b:Nat} (h:Al w w' a b) (hg:w'.grownBy w'' (some a)):Al w w'' a b:=
 ⟨hg.os.trans h.os,hg.tape.trans h.tape,hg.output.trans h.output,zh h.size hg.size,fun k hk h1 h2=>(hg.block k (by have:=h.size;omega) (by simpa using h1)).trans (h.block k hk h1 h2)⟩
theorem Al.grownR {w w' w'':World} {a b:Nat} (h:Al w w' a b) (hg:w'.grownBy w'' (some b)):Al w w'' a b:=
 ⟨hg.os.trans h.os,hg.tape.trans h.tape,hg.output.trans h.output,zh h.size hg.size,fun k hk h1 h2=>(hg.block k (by have:=h.size;omega) (by simpa using h2)).trans (h.block k hk h1 h2)⟩
theorem Al.step {w w' w'':World} {a b:Nat} (h:Al w w' a b) (hb:Below w'.heap.size w' w''):Al w w'' a b:=
 ⟨hb.os.trans h.os,hb.tape.trans h.tape,hb.output.trans h.output,zh h.size hb.size,fun k hk h1 h2=>(hb.block k (by have:=h.size;omega)).trans (h.block k hk h1 h2)⟩
theorem Al.trans {w w' w'':World} {a b b':Nat} (h:Al w w' a b) (k:Al w' w'' a b') (hb:b'=b\/w.heap.size<=b'):Al w w'' a b:=
 ⟨k.os.trans h.os,k.tape.trans h.tape,k.output.trans h.output,zh h.size k.size,fun i hi h1 h2=>(k.block i (by have:=h.size;omega) h1 (by rcases hb with rfl|hb;exact h2;omega)).trans (h.block i hi h1 h2)⟩
theorem Ky (b o j:Nat):((pK b o):Addr).add j=(pK b (o+j)):=by unfold Addr.add;split<;>simp_all
theorem KO (base kb:Nat) (k:RK) (v:Value) (w:World) (h:AG w kb 87 (k.cells v)) (h0:0<=k.last) (h1:k.last<=1000000):
  Calls Tryz.prog 40 #[pq kb 0] w fun e w'=>e= .returned (.int .i64 (k.last+1))/\AG w' kb 87 ({k with last:=k.last+1}.cells v)/\w.grownBy w' (some kb):=by
 have c:w.cell? (pK kb 12)=some (.int .i64 k.last):=h.cell rfl
 have f:=h.frozen 12
 have H2:=AC (show AG (w.setCell (pK kb 12) (.int .i64 (k.last+1))) kb 87 ({k with last:=k.last+1}.cells v) from h.set 12 _)
 have H3:=AC (AS (zk w (some kb)) 12 (.int .i64 (k.last+1)))
 generalize k.last=L at*
 clear h
 go_enter Tryz.func40,Tryz.ntmps40
 go_wp2
 go_ret
 exact ⟨rfl,AB H2,AB H3⟩
theorem QO:(Tryz.prog.info? 128).map (fun i=>(i.zero,i.size,i.bytes))=some (some (.agg #[.int .i64 0,.int .i64 0,.string ByteArray.empty,.bool false,.slice none 0 0]),5,64):=by kernel_rfl
def Bh (id dir:Int) (name:ByteArray) (is:Bool):Ino:=⟨id,dir,name,is,.slice none 0 0⟩
def RK.add (k:RK) (dir:Int) (name:ByteArray) (is:Bool):RK:={k with inos:=k.inos++[Bh (k.last+1) dir name is],last:=k.last+1}
theorem Lb (base kb g cap:Nat) (k:RK) (dir:Int) (name:ByteArray) (is:Bool) (w:World) (h:D9 w base kb g cap k) (hkb:kb<base) (hbs:base<=w.heap.size) (hn:k.inos.length<=100000) (h0:0<=k.last) (h1:k.last<=1000000):
  Calls Tryz.prog 82 #[pq kb 0,.int .i64 dir,.string name,.bool is] w fun e w'=>e= .returned (.int .i64 (k.last+1))/\∃g' cap',D9 w' base kb g' cap' (k.add dir name is)/\Al w w' kb g/\(g'=g\/w.heap.size<=g'):=by
 have HF:=AC (KO base kb k _ w h.1 h0 h1)
 have H:=AC h
 have hgb:=h.2.lt g rfl
 obtain ⟨ii,hii,hz0,hz1,hz2⟩:=Eu QO
 have HII:=AC (And.intro hii (And.intro hz0 (And.intro hz1 hz2)))
 clear h hii hz0 hz1 hz2
 go_enter Tryz.func82,Tryz.ntmps82
 go_wp2_with fail
 refine (AB HF).mono ?_
 rintro e w1 ⟨rfl,hk1,hg1⟩
 have hs1:=hg1.size
 have how1:=(AB H).2.kept hg1 (.inr (by show some g≠some kb;simp;omega))
 have c7:w1.cell? (pK kb 7)=some (.slice (some (pK g 0)) k.inos.length cap):=hk1.cell rfl
 have f7:=hk1.frozen 7
 have hkl:=hk1.lt
 have HK1:=AC hk1
 have HG1:=AC hg1
 have HOW1:=AC how1
 obtain ⟨L,hL⟩:∃L,L=k.last+1:=⟨_,rfl⟩
 rw [<-hL]
 have HL:=AC hL
 obtain ⟨n,hnn⟩:∃n,n=k.inos.length:=⟨_,rfl⟩
 rw [<-hnn] at c7 hn HOW1
 have HNN:=AC hnn
 obtain ⟨o,ho⟩:∃o,o=Obj.cells #[.int .i64 L,.int .i64 dir,.string name,.bool is,.slice none 0 0] 128:=⟨_,rfl⟩
 have HO:=AC ho
 have HNW:=AC (show ∀j u,(BJ (Bh L dir name is))[j]? =some u->(w1.alloc o).cell? (((pK w1.heap.size 0):Addr).add j)=some u from by
  rw [ho]
  intro j u hj
  rw [Ky,zq]
  exact (AG.new w1 128 (BJ (Bh L dir name is))).cell hj)
 clear hk1 hg1 how1 hL hnn ho HF
 go_wp2_with (at_builtin;refine wpList_append_lies _ (by rfl) _ _ 83 (by rfl) base 128 ii _ 5 64 Tryz.underlying83 (AB HII).1 (AB HII).2.1 (AB HII).2.2.1 (AB HII).2.2.2 rfl (by decide) _ _ _ (by rfl) ((AB HOW1).alloc _) (pK w1.heap.size 0) 1 1 (BJ (Bh L dir name is)) (by rfl) (by rfl) (by have h:=AB HNW;rw [AB HO] at h;exact h) (by intro u hu;simp only [BJ,Bh,List.mem_cons,List.not_mem_nil,or_false] at hu;rcases hu with rfl|rfl|rfl|rfl|rfl<;>rfl) (by omega) (by unfold maxLen;omega) (by omega) (by simp;omega) (w1.heap.size+1) (by simp) ?_;intro g5 cap5 w5 hown5 hgrow5 hat5 hlt5;have k5:=((AB HK1).alloc (Obj.cells #[.int .i64 L,.int .i64 dir,.string name,.bool is,.slice none 0 0] 128)).grown hgrow5 (by show some kb≠some g;simp;omega);have x7:=k5.cell (j:=7) rfl;have y7:=k5.frozen 7;have K5:=AC k5;clear k5)
 have hkg:kb≠g:=by omega
 have hg5:g5=g\/g5=w1.heap.size+1:=by
  rcases hat5 with h|h
  ·left;simpa [Value.ownBlock] using h.symm
  ·exact .inr h
 have hkg5:g5≠kb:=by omega
 have r1:AG (w5.setCell (pK kb 7) (.slice (some (pK g5 0)) (n+1) cap5)) kb 87 ((k.add dir name is).cells (.slice (some (pK g5 0)) (k.add dir name is).inos.length cap5)):=by
  have h:=(AB K5).set 7 (.slice (some (pK g5 0)) (n+1) cap5)
  have e:(k.add dir name is).inos.length=n+1:=by rw [RK.add,AB HNN];simp
  rw [e];exact h
 have r2:(w5.setCell (pK kb 7) (.slice (some (pK g5 0)) (n+1) cap5)).ownsRow base 128 5 (.slice (some (pK g5 0)) (k.add dir name is).inos.length cap5) (k.add dir name is).inos.length (B0 (k.add dir name is).inos):=by
  have e:(k.add dir name is).inos.length=n+1:=by rw [RK.add,AB HNN];simp
  have e2:B0 (k.add dir name is).inos=B0 k.inos++BJ (Bh L dir name is):=by rw [RK.add,AB HL,B0,B0,List.flatMap_append];simp
  rw [e,e2]
  exact hown5.kept (AS (w:=w5) (wr:=w5) (b:=kb) ⟨rfl,rfl,rfl,zx _,fun _ _ _=>rfl⟩ 7 _) (.inr (by show some g5≠some kb;simpa using hkg5))
 have r3:Al w (w5.setCell (pK kb 7) (.slice (some (pK g5 0)) (n+1) cap5)) kb g:=
  ((((Al.refl w kb g).grownL (AB HG1)).step ((zw _ _).alloc (zx _) _)).grownR hgrow5).grownL (AS (w:=w5) (wr:=w5) (b:=kb) ⟨rfl,rfl,rfl,zx _,fun _ _ _=>rfl⟩ 7 _)
 go_ret
 exact ⟨by rw [<-AB HL];rfl,g5,cap5,⟨r1,r2⟩,r3,by omega⟩
def CW (k:RK) (s:ByteArray):Int×RK:=
 if (AN k.inos s).e≠0 then ((AN k.inos s).e,k) else if (AN k.inos s).n≠0 then (10,k) else if k.li<=(k.inos.length:Int) then (12,k) else (0,k.add (AN k.inos s).dir (AN k.inos s).name true)
theorem D9.below {w w':World} {base kb g cap:Nat} {k:RK} (h:D9 w base kb g cap k) (hb:Below w.heap.size w w'):D9 w' base kb g cap k:=
 ⟨h.1.below hb h.1.lt,h.2.kept (row:=none) ⟨hb.os,hb.tape,hb.output,hb.size,fun q hq _=>hb.block q hq⟩ (.inr (by show some g≠none;simp))⟩
theorem D9.heap {w w':World} {base kb g cap:Nat} {k:RK} (h:D9 w base kb g cap k) (hh:w'.heap=w.heap):D9 w' base kb g cap k:=
 ⟨h.1.heap hh,by have h2:=h.2;unfold World.ownsRow at h2 ⊢;rw [hh];exact h2⟩
theorem QP (base kb g cap:Nat) (k:RK) (s:ByteArray) (w:World) (h:D9 w base kb g cap k) (hkb:kb<base) (hbs:base<=w.heap.size) (hn:k.inos.length<=100000) (h0:0<=k.last) (h1:k.last<=1000000) (hs:s.size<=maxLen):
  Calls Tryz.prog 80 #[pq kb 0,.string s] w fun e w'=>e= .returned (.int .i64 (CW k s).1)/\∃g' cap',D9 w' base kb g' cap' (CW k s).2/\Al w w' kb g/\(g'=g\/w.heap.size<=g'):=by
 have hgb:=h.2.lt g rfl
 have hkl:=h.1.lt
 have HW:=AC (IZ kb g cap k.inos s w h.at hkl hgb.2 (by omega) hs)
 have H:=AC h
 obtain ⟨r,hr⟩:∃r,r=AN k.inos s:=⟨_,rfl⟩
 rw [<-hr] at HW
 have hm:CW k s=if r.e≠0 then (r.e,k) else if r.n≠0 then (10,k) else if k.li<=(k.inos.length:Int) then (12,k) else (0,k.add r.dir r.name true):=by rw [CW,hr]
 have HM:=AC hm
 clear h hs hr hm
 obtain ⟨dir,name,n,e⟩:=r
 simp only at HM
 unfold MU at HW
 go_enter Tryz.func80,Tryz.ntmps80
 go_wp2_with fail
 refine (AB HW).mono ?_
 rintro e' w1 ⟨rfl,hb1⟩
 have HR1:=AC ((AB H).below hb1)
 have HF1:=AC (Al.ofBelow (a:=kb) (b:=g) hb1)
 have hs1:=hb1.size
 clear hb1 HW
 simp only
 by_cases t1:e=0
 case neg=>
  have g1:(e !=0)=true:=by simpa using t1
  have hm:=AB HM
  rw [if_pos t1] at hm
  have HM2:=AC hm
  clear t1 hm
  go_wp2
  go_ret
  exact ⟨by rw [AB HM2];rfl,g,cap,by rw [AB HM2];exact AB HR1,AB HF1,.inl rfl⟩
 have g1:(e !=0)=false:=by simpa using t1
 by_cases t2:n=0
 case neg=>
  have g2:(n !=0)=true:=by simpa using t2
  have hm:=AB HM
  rw [if_neg (by simpa using t1),if_pos t2] at hm
  have HM2:=AC hm
  clear t1 t2 hm
  go_wp2
  go_ret
  exact ⟨by rw [AB HM2];rfl,g,cap,by rw [AB HM2];exact AB HR1,AB HF1,.inl rfl⟩
 have g2:(n !=0)=false:=by simpa using t2
 have hm:=AB HM
 rw [if_neg (by simpa using t1),if_neg (by simpa using t2)] at hm
 have HM2:=AC hm
 have c3:w1.cell? (pK kb 3)=some (.int .i64 k.li):=(AB HR1).1.cell rfl
 have c7:w1.cell? (pK kb 7)=some (.slice (some (pK g 0)) k.inos.length cap):=(AB HR1).1.cell rfl
 clear t1 t2 hm HM
 by_cases t3:k.li<=(k.inos.length:Int)
 ·have hm:=AB HM2
  rw [if_pos t3] at hm
  have HM3:=AC hm
  clear hm
  go_wp2
  go_quiet (fail)
  go_wp2
  go_ret
  exact ⟨by rw [AB HM3];rfl,g,cap,by rw [AB HM3];exact (AB HR1).heap rfl,⟨(AB HF1).os,(AB HF1).tape,(AB HF1).output,(AB HF1).size,(AB HF1).block⟩,.inl rfl⟩
 ·have hm:=AB HM2
  rw [if_neg t3] at hm
  have HM3:=AC hm
  clear hm
  go_wp2
  go_quiet (fail)
  have HMK:=AC (Lb base kb g cap k dir name true (w1.drewN nq) ((AB HR1).heap rfl) hkb (by show base<=w1.heap.size;omega) hn h0 h1)
  go_wp2_with fail
  refine (AB HMK).mono ?_
  rintro e' w2 ⟨rfl,g',cap',hr2,hf2,hg2⟩
  have HR2:=AC hr2
  have HF2:=AC (show Al w w2 kb g from ⟨hf2.os.trans (AB HF1).os,hf2.tape.trans (AB HF1).tape,hf2.output.trans (AB HF1).output,zh (AB HF1).size hf2.size,fun q hq a b=>(hf2.block q (by show q<w1.heap.size;omega) a b).trans ((AB HF1).block q hq a b)⟩)
  have hg3:g'=g\/w.heap.size<=g':=by rcases hg2 with h|h;exact .inl h;exact .inr (zh hs1 h)
  clear hr2 hf2 hg2
  go_wp2
  go_ret
  exact ⟨by rw [AB HM3];rfl,g',cap',by rw [AB HM3];exact AB HR2,AB HF2,hg3⟩
def BV (a b c d e:Int):List Value:=[.int .i64 a,.int .i64 b,.int .i64 c,.int .i64 d,.int .i64 e]
def Hm (w:World) (v:Value) (PL:List Nat):Prop:=∃a c,v= .slice a PL.length c/\∀(i n:Nat),PL[i]? =some n->∃gp b d,a=some (pK gp 0)/\gp<w.heap.size/\w.cell? (pK gp (i*31+22))=some (.slice b n d)
def ZU (xs:List Ino) (BL:List Nat):Prop:=BL.length=xs.length/\∀(i:Nat) (x:Ino) (n:Nat),xs[i]? =some x->BL[i]? =some n->∃a c,x.bytes= .slice a n c
theorem JX {l:List Nat} {j n:Nat} (h:l[j]? =some n):(l.take (j+1)).sum=(l.take j).sum+n:=by
 rw [List.take_add_one,h];simp
theorem Ic (l:List Nat) (j:Nat):(l.take j).sum<=l.sum:=by
 have h:=List.take_append_drop j l
 have h2:l.sum=(l.take j).sum+(l.drop j).sum:=by
  conv=>lhs;rw [<-h]
  rw [List.sum_append]
 omega
theorem Ie (base kb g cap:Nat) (k:RK) (PL BL:List Nat) (oa:Option Addr) (on oc:Nat) (w:World) (h:D9 w base kb g cap k) (hP:Hm w k.pv PL) (hO:k.ov= .slice oa on oc) (hB:ZU k.inos BL)
  (hn:k.inos.length<=100000) (hp:PL.length<=100000) (hps:PL.sum<=10000000) (hbs:BL.sum<=10000000):
  Calls Tryz.prog 62 #[pq kb 0] w fun e w'=>e= .returned (.agg (BV PL.length PL.sum on k.inos.length BL.sum).toArray)/\Below w.heap.size w w':=by
 have hkl:=h.1.lt
 have hgb:=h.2.lt g rfl
 obtain ⟨pa,pc,hpv,hpp⟩:=hP
 have c5:w.cell? (pK kb 5)=some (.slice pa PL.length pc):=by rw [<-hpv];exact h.1.cell rfl
 have c6:w.cell? (pK kb 6)=some (.slice oa on oc):=by rw [<-hO];exact h.1.cell rfl
 have c7:w.cell? (pK kb 7)=some (.slice (some (pK g 0)) k.inos.length cap):=h.1.cell rfl
 have H:=AC h
 have HP:=AC hpp
 have HBL:=AC hB
 clear h hpp hB
 have Z1:=AC (show AG ((w.alloc (.cells (BV 0 0 0 0 0).toArray 70)).alloc (.cells (BV PL.length 0 on k.inos.length 0).toArray 70)) (w.heap.size+1) 70 (BV PL.length 0 on k.inos.length 0) from by
  have h:=AG.new (w.alloc (.cells (BV 0 0 0 0 0).toArray 70)) 70 (BV PL.length 0 on k.inos.length 0)
  rwa [show (w.alloc (.cells (BV 0 0 0 0 0).toArray 70)).heap.size=w.heap.size+1 from by simp] at h)
 have Z2:=AC ((AG.new w 70 (BV 0 0 0 0 0)).alloc (.cells (BV PL.length 0 on k.inos.length 0).toArray 70))
 have Z3:=AC (((zw w.heap.size w).alloc (zx _) (.cells (BV 0 0 0 0 0).toArray 70)).alloc (by simp) (.cells (BV PL.length 0 on k.inos.length 0).toArray 70))
 go_enter Tryz.func62,Tryz.ntmps62
 go_wp2
 go_region
 go_wp2
 go_loopw [4] (fun i wr=>∃j:Nat,j<=PL.length/\i= .int .i64 j/\Hid (AG wr (w.heap.size+1) 70 (BV PL.length (PL.take j).sum on k.inos.length 0))/\Hid (AG wr w.heap.size 70 (BV 0 0 0 0 0))/\Hid (Below w.heap.size w wr)) (fun i _=>PL.length-(intOf i).toNat)
 case atStart=>
  exact ⟨0,by omega,rfl,AC ((AB Z1).heap rfl),AC ((AB Z2).heap rfl),AC ⟨(AB Z3).os,(AB Z3).tape,(AB Z3).output,(AB Z3).size,(AB Z3).block⟩⟩
 case round=>
  obtain ⟨j,hj,rfl,HU,HR,HB⟩:=hrel
  have hcell:∀b o,b<w.heap.size->wr.cell? (pK b o)=w.cell? (pK b o):=fun b o hb=>(AB HB).cell (p:=(pK b o)) hb
  have d5:wr.cell? (pK kb 5)=some (.slice pa PL.length pc):=by rw [hcell _ _ hkl];exact c5
  by_cases hlt:j<PL.length
  ·obtain ⟨n,hnj⟩:∃n,PL[j]? =some n:=⟨_,zz hlt⟩
   obtain ⟨gp,b,d,hpa,hgp,hc⟩:=AB HP j n hnj
   subst hpa
   have d22:wr.cell? (pK gp (j*31+22))=some (.slice b n d):=by rw [hcell _ _ hgp];exact hc
   have u1:wr.cell? (pK (w.heap.size+1) 1)=some (.int .i64 ((PL.take j).sum:Nat)):=(AB HU).cell rfl
   have uf:=(AB HU).frozen 1
   have hsum:=JX hnj
   have hle:=Ic PL (j+1)
   obtain ⟨A,hA⟩:∃A,A=(PL.take j).sum:=⟨_,rfl⟩
   rw [<-hA] at u1 hsum
   have HS:=AC hsum
   have hA1:(A:Int)+(n:Int)<=10000000:=by omega
   have hj0:(0:Int)<=(j:Int):=by omega
   have hj1:(j:Int)<(PL.length:Int):=by omega
   have hgw:gp≠w.heap.size+1:=by omega
   have hkw:kb≠w.heap.size+1:=by omega
   have N1:=AC (show AG (wr.setCell (pK (w.heap.size+1) 1) (.int .i64 ((A:Int)+(n:Int)))) (w.heap.size+1) 70 (BV PL.length ((PL.take (j+1)).sum:Nat) on k.inos.length 0) from by
    have h:=(AB HU).set 1 (.int .i64 ((A:Int)+(n:Int)))
    rw [hsum,Int.natCast_add];exact h)
   have N2:=AC ((AB HR).set_other (c:=w.heap.size+1) (by omega) 1 (.int .i64 ((A:Int)+(n:Int))))
   have N3:=AC ((AB HB).setCell (p:=(pK (w.heap.size+1) 1)) (Nat.le_succ _) (.int .i64 ((A:Int)+(n:Int))))
   clear hcell hnj hc hsum hle hA c5 c6 c7
   go_wp2
   go_region
   go_wp2
   go_roundw
   case rel=>exact ⟨j+1,by omega,by go_num,AC ((AB N1).heap rfl),AC ((AB N2).heap rfl),AC ⟨(AB N3).os,(AB N3).tape,(AB N3).output,(AB N3).size,(AB N3).block⟩⟩
   case measure=>simp [intOf];omega
  ·have hje:j=PL.length:=by omega
   subst hje
   rw [List.take_length] at HU
   go_wp2
   go_loopw [5] (fun i wr=>∃j:Nat,j<=k.inos.length/\i= .int .i64 j/\Hid (AG wr (w.heap.size+1) 70 (BV PL.length PL.sum on k.inos.length (BL.take j).sum))/\Hid (AG wr w.heap.size 70 (BV 0 0 0 0 0))/\Hid (Below w.heap.size w wr)) (fun i _=>k.inos.length-(intOf i).toNat)
   case atStart=>exact ⟨0,by omega,rfl,HU,HR,HB⟩
   case round=>
    obtain ⟨j,hj,rfl,HU,HR,HB⟩:=hrel
    have hcell:∀b o,b<w.heap.size->wr.cell? (pK b o)=w.cell? (pK b o):=fun b o hb=>(AB HB).cell (p:=(pK b o)) hb
    have d7:wr.cell? (pK kb 7)=some (.slice (some (pK g 0)) k.inos.length cap):=by rw [hcell _ _ hkl];exact c7
    clear d5
    by_cases hlt:j<k.inos.length
    ·obtain ⟨x,hx⟩:∃x,k.inos[j]? =some x:=⟨_,zz hlt⟩
     obtain ⟨n,hnj⟩:∃n,BL[j]? =some n:=⟨_,zz (by rw [(AB HBL).1];exact hlt)⟩
     obtain ⟨b,d,hb⟩:=(AB HBL).2 j x n hx hnj
     have d4:wr.cell? (pK g (j*5+4))=some (.slice b n d):=by
      rw [hcell _ _ hgb.2,(AB H).at.cell hx (i:=4) (by omega) rfl,hb]
     have u1:wr.cell? (pK (w.heap.size+1) 4)=some (.int .i64 ((BL.take j).sum:Nat)):=(AB HU).cell rfl
     have uf:=(AB HU).frozen 4
     have hsum:=JX hnj
     have hle:=Ic BL (j+1)
     obtain ⟨A,hA⟩:∃A,A=(BL.take j).sum:=⟨_,rfl⟩
     rw [<-hA] at u1 hsum
     have HS:=AC hsum
     have hA1:(A:Int)+(n:Int)<=10000000:=by omega
     have hj0:(0:Int)<=(j:Int):=by omega
     have hj1:(j:Int)<(k.inos.length:Int):=by omega
     have hgw:g≠w.heap.size+1:=by omega
     have hkw:kb≠w.heap.size+1:=by omega
     have N1:=AC (show AG (wr.setCell (pK (w.heap.size+1) 4) (.int .i64 ((A:Int)+(n:Int)))) (w.heap.size+1) 70 (BV PL.length PL.sum on k.inos.length ((BL.take (j+1)).sum:Nat)) from by
      have h:=(AB HU).set 4 (.int .i64 ((A:Int)+(n:Int)))
      rw [hsum,Int.natCast_add];exact h)
     have N2:=AC ((AB HR).set_other (c:=w.heap.size+1) (by omega) 4 (.int .i64 ((A:Int)+(n:Int))))
     have N3:=AC ((AB HB).setCell (p:=(pK (w.heap.size+1) 4)) (Nat.le_succ _) (.int .i64 ((A:Int)+(n:Int))))
     clear hcell hnj hx hb hsum hle hA c5 c6 c7
     go_wp2
     go_region
     go_wp2
     go_roundw
     case rel=>exact ⟨j+1,by omega,by go_num,AC ((AB N1).heap rfl),AC ((AB N2).heap rfl),AC ⟨(AB N3).os,(AB N3).tape,(AB N3).output,(AB N3).size,(AB N3).block⟩⟩
     case measure=>simp [intOf];omega
    ·have hje:j=k.inos.length:=by omega
     have htk:BL.take j=BL:=yh (by rw [(AB HBL).1];omega)
     rw [htk] at HU
     have l0:=(AB HU).cell (j:=0) rfl
     have l1:=(AB HU).cell (j:=1) rfl
     have l2:=(AB HU).cell (j:=2) rfl
     have l3:=(AB HU).cell (j:=3) rfl
     have l4:=(AB HU).cell (j:=4) rfl
     have r0:=(AB HR).cell (j:=0) rfl
     have r1:=(AB HR).cell (j:=1) rfl
     have r2:=(AB HR).cell (j:=2) rfl
     have r3:=(AB HR).cell (j:=3) rfl
     have r4:=(AB HR).cell (j:=4) rfl
     have f0:=(AB HR).frozen 0
     have f1:=(AB HR).frozen 1
     have f2:=(AB HR).frozen 2
     have f3:=(AB HR).frozen 3
     have f4:=(AB HR).frozen 4
     have u5:=(((((AB HR).set 0 (.int .i64 PL.length)).set 1 (.int .i64 (PL.sum:Nat))).set 2 (.int .i64 on)).set 3 (.int .i64 k.inos.length)).set 4 (.int .i64 (BL.sum:Nat))
     have v0:=u5.cell (j:=0) rfl
     have v1:=u5.cell (j:=1) rfl
     have v2:=u5.cell (j:=2) rfl
     have v3:=u5.cell (j:=3) rfl
     have v4:=u5.cell (j:=4) rfl
     have N3:=AC ((((((AB HB).setCell (p:=(pK w.heap.size 0)) (zx _) (.int .i64 PL.length)).setCell (p:=(pK w.heap.size 1)) (zx _) (.int .i64 (PL.sum:Nat))).setCell (p:=(pK w.heap.size 2)) (zx _) (.int .i64 on)).setCell (p:=(pK w.heap.size 3)) (zx _) (.int .i64 k.inos.length)).setCell (p:=(pK w.heap.size 4)) (zx _) (.int .i64 (BL.sum:Nat)))
     clear hcell u5 htk hje
     go_wp2
     exact bodyPost_ret (v:= .agg (BV PL.length PL.sum on k.inos.length BL.sum).toArray) (by simp [results,Tryz.results62,go_sem,v0,v1,v2,v3,v4,BV]) rfl ⟨rfl,AB N3⟩
end Go.Proofs.YtdchgbmliojoiaaGreatDoor
