import Derived.Test.YtdchgbmliojoiaaGreatDoorG05
import Derived.Test.YtdchgbmliojoiaaGreatDoorG08
set_option maxRecDepth 100000
set_option maxHeartbeats 2000000
set_option linter.unusedVariables false
set_option linter.unusedSimpArgs false
namespace Go.Proofs.YtdchgbmliojoiaaGreatDoor
section
open Go Go.RowKit
theorem Rr {α:Type} (L:List α) (o:Nat) (v:α) (r:List α) (h:o+(r.length+1)<=L.length):splice (L.set o v) (o+1) r=splice L o (v::r):=by
 have a:=GE L o [v] 0 v rfl (by simp;omega)
 simp only [List.take_zero,EB,Nat.add_zero,zq] at a
 rw [a,show (List.take 1 [v])=[v] from rfl]
 exact FT L o [v] r (by simp;omega)
theorem IY (off:Nat):∀(vs:List Value) (k:Nat) (L:List Value),off+k+vs.length<=L.length->(vs.zipIdx k).foldl (fun cs (x:Value×Nat)=>cs.setIfInBounds (off+x.2) x.1) L.toArray=(splice L (off+k) vs).toArray
 |[],k,L,_=>by rw [EB];rfl
 |v::r,k,L,h=>by
  have h':off+k+(r.length+1)<=L.length:=h
  rw [List.zipIdx_cons,List.foldl_cons]
  show (r.zipIdx (k+1)).foldl _ (L.toArray.setIfInBounds (off+k) v)=_
  rw [zm,IY off r (k+1) (L.set (off+k) v) (by rw [yx];omega),<-Nat.add_assoc,Rr L (off+k) v r h']
theorem FE (place:Nat->Option (Nat×Nat)) (L:List Value) (i off size:Nat) (v:Value) (rest:List (Nat×Value)) (hp:place i=some (off,size)) (hs:v.cells.size=size) (hle:off+size<=L.length):
  Instr.fill place L.toArray ((i,v)::rest)=Instr.fill place (splice L off v.cells.toList).toArray rest:=by
 rw [Instr.fill]
 simp only [hp]
 rw [if_neg (by simp [hs];omega)]
 congr 1
 have h:=IY off v.cells.toList 0 L (by rw [xu,hs];omega)
 rw [Nat.add_zero] at h
 rw [<-h,<-Array.foldl_toList,Array.toList_zipIdx]
theorem Rs (w:World):((#[{name:= "perm",type:=164,offset:=0,embedded:=false,tag:= "",pkgPath:= "tinyos/mem",byteOffset:=0},{name:= "bytes",type:=136,offset:=1,embedded:=false,tag:= "",pkgPath:= "tinyos/mem",byteOffset:=1}]:Array Field).mapM fun f=>(do pure (f.offset,<-sizeOf f.type):Sem (Nat×Nat))).run Tryz.prog w= .ok #[(0,1),(1,256)] w:=by kernel_rfl
theorem UO (perm:Int) (bytes:List Int) (hb:bytes.length=256) (w:World):(Instr.build 185 #[(0,.int .u8 perm),(1,.agg (AJ bytes).toArray)]).run Tryz.prog w= .ok (.agg (Bw ⟨0,perm,bytes⟩).toArray) w:=by
 have hzv:=Tryz.zeroValue185 w
 have hl:Tryz.zeroCells185.toList.length=257:=by rw [xu];exact Tryz.zeroCells185_size
 generalize Tryz.zeroCells185=ZA at hzv hl
 obtain ⟨Z⟩:=ZA
 have hl:Z.length=257:=hl
 have hff:Instr.fill (fun i=>(#[(0,1),(1,256)]:Array (Nat×Nat))[i]?) (Value.agg Z.toArray).cells [(0,Value.int .u8 perm),(1,Value.agg (AJ bytes).toArray)]=some (Bw ⟨0,perm,bytes⟩).toArray:=by
  show Instr.fill _ Z.toArray _=_
  rw [FE _ _ 0 0 1 _ _ rfl rfl (by rw [hl];omega),FE _ _ 1 1 256 _ _ rfl (by simp [Value.cells,AM,hb]) (by rw [BE _ _ _ (by simp [Value.cells,hl])];omega)]
  refine congrArg some (congrArg List.toArray ?_)
  cases Z with
  |nil=>simp at hl
  |cons z r=>
   have hr:r.length=256:=by simpa using hl
   unfold splice Bw
   simp [Value.cells,AM,hb,hr]
 unfold Instr.build
 simp only [Sem.run_bind,hzv,yk,run_underlying Tryz.underlying185,Rs,hff]
 rfl
theorem XB (p:Pg) (hb:p.bytes.length=256):List.foldl (fun (cs:Array Value) (x:Value×Nat)=>cs.setIfInBounds (1+x.snd) x.fst) (Tryz.zeroCells185.setIfInBounds 0 (.int .u8 p.perm)) (AJ p.bytes).zipIdx=(Bw p).toArray:=by
 have hl:Tryz.zeroCells185.toList.length=257:=by rw [xu];exact Tryz.zeroCells185_size
 generalize Tryz.zeroCells185=ZA at hl
 obtain ⟨Z⟩:=ZA
 have hl:Z.length=257:=hl
 rw [zm,IY 1 (AJ p.bytes) 0 _ (by rw [yx,AM,hb,hl];omega)]
 refine congrArg List.toArray ?_
 cases Z with
 |nil=>simp at hl
 |cons z r=>
  have hr:r.length=256:=by simpa using hl
  unfold splice Bw
  simp [AM,hb,hr]
end
section
open Go.RowKit
def Hv (L:List Int):List Value:=L.map (Value.int .i64)
theorem SZ:∀ss,Bg ss<=512->∀j,j<512-Bg ss->(room ss)[j]? =some 0
 |[],_,j,hj=>by
  unfold room KJ
  rw [xw]
  simp [Bg] at hj
  simp [hj]
 |s::r,h,j,hj=>by
  have hr:Bg r<=512:=by unfold Bg at h;omega
  unfold room
  have hl:512-Bg (s::r)+(Fu s).length<=(room r).length:=by rw [DH r hr,IW];unfold Bg at h ⊢;omega
  rw [Dh _ _ _ hl,if_pos hj]
  exact SZ r hr j (by unfold Bg at hj;omega)
theorem MM (L:List Int) (off:Nat) (xs:List Int) (m:Nat) (hl:off+xs.length+m<=L.length) (h:∀j,off+xs.length<=j->j<off+xs.length+m->L[j]? =some 0):
  splice L off (xs++List.replicate m 0)=splice L off xs:=by
 apply List.ext_getElem?
 intro j
 rw [Dh _ _ _ (by simp;omega),Dh _ _ _ (by omega)]
 simp only [zn,List.length_replicate]
 by_cases a:j<off
 ·simp [a]
 ·by_cases c:j<off+xs.length
  ·rw [if_neg a,if_pos (by omega),if_neg a,if_pos c,zp (by omega)]
  ·by_cases d:j<off+xs.length+m
   ·rw [if_neg a,if_pos (by omega),if_neg a,if_neg c,zo (by omega),xw,if_pos (by omega),h j (by omega) d]
   ·rw [if_neg a,if_neg (by omega),if_neg a,if_neg c]
theorem Ja (xs ys:List Int):By (xs++ys)=By xs++By ys:=by simp [By]
theorem NG (x:Int):By [x]=A8 x:=by simp [By]
theorem Sa:A8 0=List.replicate 8 0:=by decide
theorem MN (ss:List ByteArray):(EF ss).take (ss.length+1)=((ss.length:Nat):Int)::ED ss:=by
 unfold EF
 rw [List.take_succ_cons,yi (by rw [DG];omega),yh (by rw [DG];omega)]
theorem Zi (ss:List ByteArray):EF ss=(EF ss).take (ss.length+1)++[0]:=by
 rw [MN];simp [EF]
theorem Xj (ss:List ByteArray) (k:Nat) (h:k<ss.length):(EF ss)[k+1]? =some ((ED ss).getD k 0):=by
 unfold EF
 rw [List.getElem?_cons_succ,zp (by rw [DG];exact h)]
 simp [List.getD,zz (show k<(ED ss).length by rw [DG];exact h)]
theorem K2 (ws:List Int) (k:Nat) (x:Int) (h:ws[k]? =some x):By (ws.take (k+1))=By (ws.take k)++A8 x:=by
 obtain ⟨hk,e⟩:=zy.1 h
 rw [List.take_succ_eq_append_getElem hk,Ja,e,NG]
theorem Zj (ss:List ByteArray) (X k:Nat) (h:k<ss.length) (hl:(room ss).length=512) (hX:X+8*(ss.length+2)<=512):
  splice (splice (room ss) X (By ((EF ss).take (k+1)))) (0+(X+8+8*k)) (A8 ((ED ss).getD k 0))=splice (room ss) X (By ((EF ss).take (k+1+1))):=by
 have hw:(By ((EF ss).take (k+1))).length=8*(k+1):=by rw [EV,yv,EN];omega
 rw [K2 (EF ss) (k+1) _ (Xj ss k h),<-FT _ _ _ _ (by rw [hw,Bn,hl];omega),hw]
 congr 1;omega
theorem Zk (ss:List ByteArray) (X:Nat) (hok:CZ ss=true) (hX:X=EE ss):splice (room ss) X (By ((EF ss).take (ss.length+1)))=Aa ss:=by
 have ht:Bg ss<=248:=by have:=Cr hok 0;simpa using this
 have h8:=(Jk hok).1
 have hl:=DH ss (by omega)
 have hw:(By ((EF ss).take (ss.length+1))).length=8*(ss.length+1):=by rw [EV,yv,EN];omega
 have hs:X+8*(ss.length+2)<=512-Bg ss:=by rw [hX,EE];omega
 rw [Aa,<-hX]
 conv=>rhs;rw [Zi ss,Ja,NG,Sa]
 rw [MM _ _ _ _ (by rw [hw,hl];omega) (fun j h1 h2=>SZ ss (by omega) j (by rw [hw] at h2;omega))]
theorem cZ (ss:List ByteArray) (k:Nat) (h:k<ss.length):(Hv (ED ss).reverse)[ss.length-1-k]? =some (.int .i64 ((ED ss).getD k 0)):=by
 have hl:=DG ss
 unfold Hv
 rw [ze,List.getElem?_reverse (by omega),hl,show ss.length-1-(ss.length-1-k)=k from by omega,List.getD,zz (by omega)]
 rfl
theorem Sb:∀(ss:List ByteArray) (k:Nat),k<ss.length->0<=(ED ss).getD k 0/\(ED ss).getD k 0<=65536
 |[],k,h=>by simp at h
 |s::r,0,h=>by simp [ED];omega
 |s::r,k+1,h=>by
  have:=Sb r k (by simpa using h)
  simpa [ED] using this
theorem ch:(Tryz.prog.info? 3).map (fun i=>(i.zero,i.size,i.bytes))=some (some (.int .i64 0),1,8):=by kernel_rfl
theorem NH {ss:List ByteArray} {k:Nat} (h:k<ss.length):
  Hv (ED (ss.drop (k+1))).reverse++[.int .i64 ((65024+(512-Bg (ss.drop k)):Nat):Int)]=Hv (ED (ss.drop k)).reverse:=by
 rw [JC h,ED,List.reverse_cons]
 simp [Hv]
theorem Xl (a:Option Addr) (b off cap:Nat) (ss:List ByteArray) (w:World) (hn:ss.length<=1000) (ha:0<ss.length->a=some (pK b off)) (hbw:b<w.heap.size)
  (hcell:∀i,i<ss.length->w.cell? (pK b (off+i))=some (.string (ss.getD i ByteArray.empty))) (hok:CZ ss=true):
  Calls Tryz.prog 85 #[.slice a ss.length cap] w fun e w'=>∃g gc,e= .returned (.tuple #[.slice (some (pK g 0)) 2 gc,.int .u64 (65024+(EE ss:Int)),.int .i64 0])/\w'.ownsRow (w.heap.size+1) 138 258 (.slice (some (pK g 0)) 2 gc) 2 (Di (Aa ss) 2)/\Below w.heap.size w w':=by
 obtain ⟨i0,hi0,hz0,hz1,hz2⟩:=info_parts ch
 have HC:=AC hcell
 have HA:=AC ha
 have HO:=AC hok
 have hn8:=(Jk hok).1
 have HI:=AC (And.intro hi0 (And.intro hz0 (And.intro hz1 hz2)))
 clear hcell ha hok hi0 hz0 hz1 hz2
 go_enter Tryz.func85,Tryz.ntmps85
 go_wp2
 go_loop [5] (fun i=>∃k:Nat,k<=ss.length/\i= .int .i64 k) (fun i=>ss.length-(intOf i).toNat)
 case atStart=>exact ⟨0,by omega,rfl⟩
 case round=>
  obtain ⟨k,hk,rfl⟩:=hrel
  by_cases hlt:k<ss.length
  ·have hca:=(AB HC) k hlt
   have e:=(AB HA) (by omega)
   subst e
   have hso:DF (ss.getD k ByteArray.empty)=true:=(zb.1 (Jk (AB HO)).2) _ (by simp [List.getD,zz hlt])
   have hl:=QI (AB HO) hlt
   obtain ⟨s,hs'⟩:∃s,s=ss.getD k ByteArray.empty:=⟨_,rfl⟩
   rw [<-hs'] at hca hl hso
   have HSO:=AC hso
   clear hs' hso
   go_wp2
   go_loop [6] (fun i=>∃j:Nat,j<=s.size/\i= .int .i64 j) (fun i=>s.size-(intOf i).toNat)
   case atStart=>exact ⟨0,by omega,rfl⟩
   case round=>
    obtain ⟨j,hj,rfl⟩:=hrel
    by_cases hjl:j<s.size
    ·have hb:((s[j].toNat:Int)==0)=false:=by have:=cd (AB HSO) hjl;simpa using this
     go_wp2
     go_round
     case rel=>exact ⟨j+1,by omega,by go_num⟩
     case measure=>simp [intOf];omega
    ·go_wp2
     go_round
     case rel=>exact ⟨k+1,by omega,by go_num⟩
     case measure=>simp [intOf];omega
  ·clear hk
   go_wp2_with (refine CA rfl 278 rfl KL Rq ?_)
   go_loopw [9,10,11] (fun at_ v i wr=>∃k:Nat,k<=ss.length/\i= .int .i64 ((k:Int)-1)/\at_= .int .i64 ((65024+(512-Bg (ss.drop k)):Nat):Int)/\AG wr w.heap.size 278 (AJ (room (ss.drop k)))/\
     wr.ownsRow (w.heap.size+1) 3 1 v (ss.length-k) (Hv (ED (ss.drop k)).reverse)/\Below w.heap.size w wr/\w.heap.size+1<=wr.heap.size)
    (fun _ _ i _=>(intOf i+1).toNat)
   case atStart=>
    refine ⟨ss.length,zx _,rfl,?_,?_,?_,?_,?_⟩
    ·simp [Bg]
    ·rw [List.drop_length,room]
     exact AG.new _ _ _
    ·rw [List.drop_length,Nat.sub_self]
     exact World.ownsRow_nil _ _ _ _
    ·exact (zw _ _).alloc (zx _) _
    ·simp
   case round=>
    obtain ⟨k,hk,rfl,rfl,hroom,hown,hbel,hsz⟩:=hrel
    have HRo:=AC hroom
    have HOw:=AC hown
    have HBe:=AC hbel
    clear hroom hown hbel
    rcases k with _|k
    ·have ht:Bg ss<=248:=by have:=Cr (AB HO) 0;simpa using this
     obtain ⟨D,hD⟩:∃D,D=65024+(512-Bg (ss.drop 0)):=⟨_,rfl⟩
     rw [<-hD]
     rw [List.drop_zero] at hD
     obtain ⟨V,hV⟩:∃V,V=D-8*(ss.length+2):=⟨_,rfl⟩
     obtain ⟨X,hX⟩:∃X,X=EE ss:=⟨_,rfl⟩
     obtain ⟨Y,hY⟩:∃Y,Y=65024+X:=⟨_,rfl⟩
     have hX2:65024+X=V/16*16:=by rw [hX,EE,hV,hD];omega
     have q1:(D:Int)-8*((ss.length:Int)+2)=(V:Int):=by omega
     have q2:(V:Int)/16*16=(Y:Int):=by omega
     have q3:(Y:Int)-65024=(X:Int):=by omega
     have hXV:X+8*(ss.length+2)<=512:=by omega
     have hX0:(0:Int)<=(X:Int):=by omega
     have hV0:(0:Int)<=(V:Int):=by omega
     have hV5:(V:Int)<=65536:=by omega
     have hD0:(0:Int)<=(D:Int):=by omega
     have hD5:(D:Int)<=65536:=by omega
     have hY0:(65024:Int)<=(Y:Int):=by omega
     have hY5:(Y:Int)<=65536:=by omega
     have hXle:(X:Int)<=512:=by omega
     have HX:=AC hX
     have HY:=AC hY
     have hrl:(room ss).length=512:=DH _ (by omega)
     have HRL:=AC hrl
     clear hD hV hX hX2 hY hrl
     go_wp2_with fail
     refine (QH w.heap.size 0 512 512 278 (room ss) X (ss.length:Int) wr (by simpa using AB HRo) (by omega) (by rw [AB HRL];omega) (by rw [AB HRL];omega) (by omega)).mono ?_
     rintro e w3 ⟨rfl,hrm,hg3⟩
     have how3:=(AB HOw).kept hg3 (by
      cases hv:Value.ownBlock u10 with
      |none=>exact .inl rfl
      |some q=>right;intro h;have:=(AB HOw).lt q hv;simp at h;omega)
     have hb3:=(AB HBe).trans (Ag hg3 (zx _) (by omega))
     have hs3:w.heap.size+1<=w3.heap.size:=by have:=hg3.size;omega
     have A1:=AC hrm
     have A2:=AC how3
     have A3:=AC hb3
     clear hrm how3 hb3 hg3
     go_wp2_with fail
     go_loopw [13] (fun i wr=>∃k:Nat,k<=ss.length/\i= .int .i64 k/\AG wr w.heap.size 278 (AJ (splice (room ss) X (By ((EF ss).take (k+1)))))/\wr.ownsRow (w.heap.size+1) 3 1 u10 ss.length (Hv (ED ss).reverse)/\Below w.heap.size w wr/\w.heap.size+1<=wr.heap.size) (fun i _=>ss.length-(intOf i).toNat)
     case atStart=>exact ⟨0,by omega,rfl,by have:=AB A1;simpa [EF,By] using this,by have:=AB A2;simpa using this,AB A3,hs3⟩
     case round=>
      obtain ⟨k,hk,rfl,hrm,how,hbl,hsr⟩:=hrel
      by_cases hlt:k<ss.length
      ·obtain ⟨g,cg,hf⟩:=how.form (by omega)
       obtain ⟨hu10,hg1,hg2⟩:=hf
       subst hu10
       obtain ⟨A,hA⟩:∃A,A=(ED ss).getD k 0:=⟨_,rfl⟩
       have hAb:=Sb ss k hlt
       have hca:wr.cell? (pK g (ss.length-1-k))=some (.int .i64 A):=by
        rw [how.cellAt _ (by omega),cZ ss k hlt,hA]
       rw [<-hA] at hAb
       obtain ⟨hA0,hA1⟩:=hAb
       obtain ⟨M,hM⟩:∃M,M=ss.length-1-k:=⟨_,rfl⟩
       rw [<-hM] at hca
       obtain ⟨Z1,hZ1⟩:∃Z1,Z1=X+8:=⟨_,rfl⟩
       obtain ⟨Z,hZ⟩:∃Z,Z=X+8+8*k:=⟨_,rfl⟩
       have r2:(ss.length:Int)-1-(k:Int)=(M:Int):=by omega
       have r3:(X:Int)+8=(Z1:Int):=by omega
       have r4:(Z1:Int)+8*(k:Int)=(Z:Int):=by omega
       have hM0:(0:Int)<=(M:Int):=by omega
       have hMn:(M:Int)<(ss.length:Int):=by omega
       have y1:=EG (X:Int) hX0 (by omega)
       have y2:=EG (Z1:Int) (by omega) (by omega)
       have y3:=EG (Z:Int) (by omega) (by omega)
       have y4:=EG (8*(k:Int)) (by omega) (by omega)
       have y5:=EG ((ss.length:Int)-1) (by omega) (by omega)
       have y6:=EG (M:Int) (by omega) (by omega)
       have y7:IntKind.u64.wrap A=A:=by rw [ym];omega
       have HZ:=AC hZ
       have HAA:=AC hA
       have hZb:Z+8<=512:=by omega
       have hgd1:g<wr.drew.heap.size:=hg2
       have hgd2:g≠w.heap.size:=by omega
       have B1:=AC hrm
       have B2:=AC how
       have B3:=AC hbl
       have hspl:(splice (room ss) X (By ((EF ss).take (k+1)))).length=512:=by
        rw [BE _ _ _ (by rw [EV,yv,EN,AB HRL];omega),AB HRL]
       have HSP:=AC hspl
       clear hrm how hbl hM hZ1 hZ hA hspl
       go_wp2_with fail
       go_region_held3 (fun w'=>w'.cell? (pK g M)=some (.int .i64 A)) (first|go_keep|(rw [Ji hg4 hgd1 hgd2];assumption))
        ((go_at_call 137;refine (QH w.heap.size 0 512 512 278 (splice (room ss) X (By ((EF ss).take (k+1)))) Z A wr.drew (by exact (AB B1).heap rfl) hZb (by rw [AB HSP];omega) (by rw [AB HSP];omega) hA0).mono ?_;rintro e w4 ⟨rfl,hrm4,hg4⟩))
       have hg5:wr.grownBy w4 (some w.heap.size):=⟨hg4.os,hg4.tape,hg4.output,hg4.size,hg4.block⟩
       have t1:=hrm4
       rw [AB HAA,AB HZ,Zj ss X k hlt (AB HRL) hXV] at t1
       have t2:=(AB B2).kept hg5 (.inr (by show some g≠some w.heap.size;simp;omega))
       have t3:=(AB B3).trans (Ag hg5 (zx _) (by omega))
       have t4:w.heap.size+1<=w4.heap.size:=by have:=hg5.size;omega
       have T1:=AC t1
       have T2:=AC t2
       have T3:=AC t3
       clear hrm4 hg4 hg5 t1 t2 t3 y1 y2 y3 y4 y5 y6 y7 r2 r3 r4
       go_wp2
       go_roundw
       case rel=>first|exact ⟨k+1,by omega,by go_num,AB T1,AB T2,AB T3,t4⟩|((repeat apply Exists.intro);exact ⟨⟨k+1,by omega,by go_num,AB T1,AB T2,AB T3,t4⟩,rfl⟩)
       case measure=>simp [intOf];omega
      ·have e:k=ss.length:=by omega
       subst e
       rw [Zk ss X (AB HO) (AB HX)] at hrm
       have B1:=AC hrm
       have B3:=AC hbl
       clear hrm how hbl
       go_wp2_with fail
       have hRl:=Cc (AB HO)
       have HRl:=AC hRl
       clear hRl
       obtain ⟨ip,hip,hpz0,hpz1,hpz2⟩:=info_parts Mn
       have HP:=AC (And.intro hip (And.intro hpz0 (And.intro hpz1 hpz2)))
       clear hip hpz0 hpz1 hpz2
       go_loopw [14,15] (fun v i wr=>∃k:Nat,k<=2/\i= .int .i64 k/\wr.ownsRow (w.heap.size+1) 138 258 v k (Di (Aa ss) k)/\AG wr w.heap.size 278 (AJ (Aa ss))/\Below w.heap.size w wr/\w.heap.size+1<=wr.heap.size) (fun _ i _=>2-(intOf i).toNat)
       case atStart=>exact ⟨0,by omega,rfl,World.ownsRow_nil _ _ _ _,AB B1,AB B3,hsr⟩
       case round=>
        obtain ⟨k,hk,rfl,how,hrm,hbl,hsz5⟩:=hrel
        have C1:=AC how
        have C2:=AC hrm
        have C3:=AC hbl
        clear how hrm hbl
        have hk3:k=0\/k=1\/k=2:=by omega
        rcases hk3 with rfl|rfl|rfl
        ·rw [show ((0:Nat):Int)=(0:Int) from rfl]
         have wz0:IntKind.i64.wrap 0=0:=by decide
         have wz1:IntKind.i64.wrap 256=256:=by decide
         go_wp2_with (first|(refine FC rfl 138 _ rfl #[(0,.int .i64 254),(1,.int .i64 6)] rfl (.agg (Aj 254 6 Aq).toArray) (PW 254) ?_)|(refine CA rfl 138 rfl (Aj 0 0 Aq).toArray Kx ?_)|(refine CK rfl 138 _ _ rfl wr.heap.size (Aj 254 6 Aq) (by rfl) (by rfl) 138 (Aj 0 0 Aq) (AG.new _ _ _) (by rw [G1,Ai,Ak]) (by rw [Ai,Ai]) (Dd _ _ _) ?_;intro w6 hp6 hg6))
         have hg6':wr.grownBy w6 none:=⟨hg6.os,hg6.tape,hg6.output,by have:=hg6.size;simp at this;omega,fun q hq _=>by rw [hg6.block q (by simp;omega) (by simp;omega),Below.heap_alloc _ _ _ hq]⟩
         have D2:=AC ((AB C2).grown hg6' (by simp))
         have D1:=AC ((AB C1).kept hg6' (by
          cases hv:Value.ownBlock u14 with
          |none=>exact .inl rfl
          |some q=>exact .inr (by simp)))
         have D3:=AC ((AB C3).grown hg6' (by omega) (by intro q h;cases h))
         have hs6:wr.heap.size<w6.heap.size:=(AB hp6).lt
         clear hg6 hg6'
         simp only [Act.put,zm,zj,zi]
         go_region_held3 (fun _=>True) (trivial)
          ((refine EW (by rfl) _ _ 32 32 (by rfl) 5 Tryz.underlying32 Jo wr.heap.size 2 256 256 w.heap.size 0 512 512 (by rfl) (by rfl) (Aj 254 6 Aq) 138 (by exact (AB hp6).heap rfl) (AJ ((Aa ss).take 256)) (by rw [AM];simp [AB HRl]) (by exact fm D2) (Dj _) (by rw [AM,Ai,Ak];simp [AB HRl]) ?_;intro w7 hp7 hg7))
         have hpp:=AB hp7
         rw [IX _ _ _ (by rw [Ak];simp [AB HRl])] at hpp
         have hg8:w6.grownBy w7 (some wr.heap.size):=⟨hg7.os,hg7.tape,hg7.output,hg7.size,hg7.block⟩
         have E2:=AC ((AB D2).grown hg8 (by simp;omega))
         have E1:=AC ((AB D1).kept hg8 (by
          cases hv:Value.ownBlock u14 with
          |none=>exact .inl rfl
          |some q=>right;intro h;have:=(AB C1).lt q hv;simp at h;omega))
         have E3:=AC ((AB D3).trans (Ag hg8 (by omega) (by omega)))
         have hs7:wr.heap.size<w7.heap.size:=by have:=hg8.size;omega
         have hlen:(Aj 254 6 ((Aa ss).take 256)).length=258:=by rw [Ai];simp [AB HRl]
         have HLEN:=AC hlen
         obtain ⟨PP,hPP⟩:∃PP,PP=Aj 254 6 ((Aa ss).take 256):=⟨_,rfl⟩
         rw [<-hPP] at hpp
         have HPP:=AC hPP
         have E0:=AC hpp
         have hone:∀v∈PP,v.oneCell'=true:=by rw [hPP];exact Dd _ _ _
         have HONE:=AC hone
         clear hpp hg7 hg8 hp7 hlen hPP hone
         go_wp2_with (first|(refine wpList_load_mid rfl 138 _ rfl wr.heap.size 0 (by rfl) PP _ (AB E0).range Tryz.underlying138 rfl (by rw [G1,AB HPP,AB HLEN]) ?_)|(refine FU rfl 77 138 _ rfl PP (by rfl) ip _ Tryz.underlying77 (AB HP).1 (AB HP).2.1 (by rw [(AB HP).2.2.1,AB HPP,AB HLEN]) (by rw [AB HPP,AB HLEN];omega) (by rw [AB HPP,AB HLEN];omega) ?_)|(at_builtin;refine wpList_append_lies _ (by rfl) _ _ 77 (by rfl) (w.heap.size+1) 138 ip _ 258 272 Tryz.underlying77 (AB HP).1 (AB HP).2.1 (AB HP).2.2.1 (AB HP).2.2.2 (by simp [Value.cells,Ai,Ak]) (by decide) u14 _ _ (by rfl) ((AB E1).alloc _) (pK w7.heap.size 0) 1 1 PP (by rfl) (by rw [AB HPP,AB HLEN]) (by have:=World.news_of_block (cs:=PP.toArray) (t:=138) (fr:=(0,0)) (heap_alloc_new w7 _);simpa using this) (AB HONE) (by omega) (by unfold maxLen;omega) (by omega) (by simp;omega) (w7.heap.size+1) (by simp) ?_;intro g cap5 w8 hown8 hgrow8 hat8 hlt8))
         have f1:=hown8
         rw [AB HPP] at f1
         have f2:=((AB E2).alloc (.cells PP.toArray 138)).grown hgrow8 (by intro h;have:=(AB E1).lt w.heap.size h.symm;omega)
         have f3:=((AB E3).alloc (by omega) (.cells PP.toArray 138)).grown hgrow8 (by simp;omega) (by intro q h;have:=(AB E1).lt q h;omega)
         have f4:w.heap.size+1<=w8.heap.size:=by have:=hgrow8.size;simp at this;omega
         go_roundw
         case rel=>exact ⟨1,by omega,rfl,f1,f2,f3,f4⟩
         case measure=>simp [intOf]
        ·rw [show ((1:Nat):Int)=(1:Int) from rfl]
         have wz0:IntKind.i64.wrap 0=0:=by decide
         have wz1:IntKind.i64.wrap 256=256:=by decide
         go_wp2_with (first|(refine FC rfl 138 _ rfl #[(0,.int .i64 255),(1,.int .i64 6)] rfl (.agg (Aj 255 6 Aq).toArray) (PW 255) ?_)|(refine CA rfl 138 rfl (Aj 0 0 Aq).toArray Kx ?_)|(refine CK rfl 138 _ _ rfl wr.heap.size (Aj 255 6 Aq) (by rfl) (by rfl) 138 (Aj 0 0 Aq) (AG.new _ _ _) (by rw [G1,Ai,Ak]) (by rw [Ai,Ai]) (Dd _ _ _) ?_;intro w6 hp6 hg6))
         have hg6':wr.grownBy w6 none:=⟨hg6.os,hg6.tape,hg6.output,by have:=hg6.size;simp at this;omega,fun q hq _=>by rw [hg6.block q (by simp;omega) (by simp;omega),Below.heap_alloc _ _ _ hq]⟩
         have D2:=AC ((AB C2).grown hg6' (by simp))
         have D1:=AC ((AB C1).kept hg6' (by
          cases hv:Value.ownBlock u14 with
          |none=>exact .inl rfl
          |some q=>exact .inr (by simp)))
         have D3:=AC ((AB C3).grown hg6' (by omega) (by intro q h;cases h))
         have hs6:wr.heap.size<w6.heap.size:=(AB hp6).lt
         clear hg6 hg6'
         simp only [Act.put,zm,zj,zi]
         go_region_held3 (fun _=>True) (trivial)
          ((refine EW (by rfl) _ _ 32 32 (by rfl) 5 Tryz.underlying32 Jo wr.heap.size 2 256 256 w.heap.size 256 256 256 (by rfl) (by rfl) (Aj 255 6 Aq) 138 (by exact (AB hp6).heap rfl) (AJ ((Aa ss).drop 256)) (by rw [AM];simp [AB HRl]) (by exact fq D2) (Dj _) (by rw [AM,Ai,Ak];simp [AB HRl]) ?_;intro w7 hp7 hg7))
         have hpp:=AB hp7
         rw [IX _ _ _ (by rw [Ak];simp [AB HRl])] at hpp
         have hg8:w6.grownBy w7 (some wr.heap.size):=⟨hg7.os,hg7.tape,hg7.output,hg7.size,hg7.block⟩
         have E2:=AC ((AB D2).grown hg8 (by simp;omega))
         have E1:=AC ((AB D1).kept hg8 (by
          cases hv:Value.ownBlock u14 with
          |none=>exact .inl rfl
          |some q=>right;intro h;have:=(AB C1).lt q hv;simp at h;omega))
         have E3:=AC ((AB D3).trans (Ag hg8 (by omega) (by omega)))
         have hs7:wr.heap.size<w7.heap.size:=by have:=hg8.size;omega
         have hlen:(Aj 255 6 ((Aa ss).drop 256)).length=258:=by rw [Ai];simp [AB HRl]
         have HLEN:=AC hlen
         obtain ⟨PP,hPP⟩:∃PP,PP=Aj 255 6 ((Aa ss).drop 256):=⟨_,rfl⟩
         rw [<-hPP] at hpp
         have HPP:=AC hPP
         have E0:=AC hpp
         have hone:∀v∈PP,v.oneCell'=true:=by rw [hPP];exact Dd _ _ _
         have HONE:=AC hone
         clear hpp hg7 hg8 hp7 hlen hPP hone
         go_wp2_with (first|(refine wpList_load_mid rfl 138 _ rfl wr.heap.size 0 (by rfl) PP _ (AB E0).range Tryz.underlying138 rfl (by rw [G1,AB HPP,AB HLEN]) ?_)|(refine FU rfl 77 138 _ rfl PP (by rfl) ip _ Tryz.underlying77 (AB HP).1 (AB HP).2.1 (by rw [(AB HP).2.2.1,AB HPP,AB HLEN]) (by rw [AB HPP,AB HLEN];omega) (by rw [AB HPP,AB HLEN];omega) ?_)|(at_builtin;refine wpList_append_lies _ (by rfl) _ _ 77 (by rfl) (w.heap.size+1) 138 ip _ 258 272 Tryz.underlying77 (AB HP).1 (AB HP).2.1 (AB HP).2.2.1 (AB HP).2.2.2 (by simp [Value.cells,Ai,Ak]) (by decide) u14 _ _ (by rfl) ((AB E1).alloc _) (pK w7.heap.size 0) 1 1 PP (by rfl) (by rw [AB HPP,AB HLEN]) (by have:=World.news_of_block (cs:=PP.toArray) (t:=138) (fr:=(0,0)) (heap_alloc_new w7 _);simpa using this) (AB HONE) (by omega) (by unfold maxLen;omega) (by omega) (by simp;omega) (w7.heap.size+1) (by simp) ?_;intro g cap5 w8 hown8 hgrow8 hat8 hlt8))
         have f1:=hown8
         rw [AB HPP] at f1
         have f2:=((AB E2).alloc (.cells PP.toArray 138)).grown hgrow8 (by intro h;have:=(AB E1).lt w.heap.size h.symm;omega)
         have f3:=((AB E3).alloc (by omega) (.cells PP.toArray 138)).grown hgrow8 (by simp;omega) (by intro q h;have:=(AB E1).lt q h;omega)
         have f4:w.heap.size+1<=w8.heap.size:=by have:=hgrow8.size;simp at this;omega
         go_roundw
         case rel=>exact ⟨2,by omega,rfl,f1,f2,f3,f4⟩
         case measure=>simp [intOf]
        ·rw [show ((2:Nat):Int)=(2:Int) from rfl]
         obtain ⟨g,gc,hu14,hgb,hgl⟩:=(AB C1).form (by omega)
         subst hu14
         have hYX:(Y:Int)=65024+(EE ss:Int):=by have:=AB HY;have h2:=AB HX;omega
         have HYX:=AC hYX
         clear hYX
         go_wp2
         go_ret3
         exact ⟨g,gc,by rw [<-AB HYX];rfl,AB C1,AB C3⟩
    ·have ht:Bg (ss.drop (k+1))<=248:=Cr (AB HO) (k+1)
     have ht':Bg (ss.drop k)<=248:=Cr (AB HO) k
     have hts:=My (ss:=ss) (k:=k) (by omega)
     have hsz30:=QI (AB HO) (k:=k) (by omega)
     have e:=(AB HA) (by omega)
     subst e
     have hca:wr.cell? (pK b (off+k))=some (.string (ss.getD k ByteArray.empty)):=by
      rw [(AB HBe).cell (p:=(pK b (off+k))) hbw];exact (AB HC) k (by omega)
     obtain ⟨s,hs⟩:∃s,s=ss.getD k ByteArray.empty:=⟨_,rfl⟩
     rw [<-hs] at hca hts hsz30
     have HS:=AC hs
     obtain ⟨U,hU⟩:∃U,U=512-Bg (ss.drop k):=⟨_,rfl⟩
     obtain ⟨D,hD⟩:∃D,D=65024+(512-Bg (ss.drop (k+1))):=⟨_,rfl⟩
     obtain ⟨E,hE⟩:∃E,E=65024+(512-Bg (ss.drop k)):=⟨_,rfl⟩
     rw [<-hD]
     have eA:(D:Int)-(s.size:Int)-1=(E:Int):=by omega
     have eB:(E:Int)-65024=(U:Int):=by omega
     have HU:=AC hU
     have HE:=AC hE
     have hb1:b<wr.drew.heap.size:=by show b<wr.heap.size;omega
     have hb2:b≠w.heap.size:=by omega
     have hUn:U<512:=by omega
     have hUne:¬512=U:=by omega
     have hUs:U+s.size+1<=512:=by omega
     have hUl:264<=U:=by omega
     have hk8:k<8:=by omega
     have e1:(((k+1:Nat):Int)-1)=(k:Int):=by omega
     rw [e1]
     have hkn:(k:Int)<(ss.length:Int):=by omega
     have hk0:(0:Int)<=(k:Int):=by omega
     have hU0:(0:Int)<=(U:Int):=by omega
     have hU5:(U:Int)<=512:=by omega
     have hUw:=EG (U:Int) hU0 (by omega)
     have hD0:(65024:Int)<=(D:Int):=by omega
     have hD5:(D:Int)<=65536:=by omega
     have hE0:(65024:Int)<=(E:Int):=by omega
     have hE5:(E:Int)<=65536:=by omega
     have hrl:(AJ (room (ss.drop (k+1)))).length=512:=by rw [AM,DH _ (by omega)]
     have HRL:=AC hrl
     clear hs hts hD hU hE e1 ht ht' hrl
     go_wp2
     go_region_held3 (fun w'=>w'.cell? (pK b (off+k))=some (.string s)) (first|go_keep|(rw [Ji hg2 hb1 hb2];assumption))
      ((refine Gm (by rfl) _ _ 32 9 (by rfl) 5 Tryz.underlying32 Jo w.heap.size U (512-U) (512-U) s (by rfl) (by rfl) (AJ (room (ss.drop (k+1)))) 278 (by exact (AB HRo).heap rfl) (by omega) (by rw [AB HRL];omega) ?_;intro w2 HR2 hg2))
     have hg3:wr.grownBy w2 (some w.heap.size):=⟨hg2.os,hg2.tape,hg2.output,hg2.size,hg2.block⟩
     have eR:splice (room (ss.drop (k+1))) U (Fu s)=room (ss.drop k):=by rw [Pb (ss:=ss) (k:=k) (by omega),<-AB HS,<-AB HU]
     have R1:=AB HR2
     rw [Ig,B4,eR] at R1
     have how2:=(AB HOw).kept hg3 (by
      cases hv:Value.ownBlock u10 with
      |none=>exact .inl rfl
      |some q=>right;intro h;have:=(AB HOw).lt q hv;simp at h;omega)
     have hsz2:w.heap.size+1<=w2.heap.size:=by have:=hg3.size;omega
     have hb5:=(AB HBe).trans (Ag hg3 (zx _) (by omega))
     have H1:=AC R1
     have H2:=AC how2
     have H3:=AC hb5
     clear hg2 hg3 eR R1 how2 hb5 HR2
     go_wp2_with (at_builtin;refine wpList_append_lies _ (by rfl) _ _ 290 (by rfl) (w.heap.size+1) 3 i0 (.int .i64 0) 1 8 Tryz.underlying290 (AB HI).1 (AB HI).2.1 (AB HI).2.2.1 (AB HI).2.2.2 rfl (by decide) u10 _ _ (by rfl) ((AB H2).alloc _) (pK w2.heap.size 0) 1 1 [.int .i64 (E:Int)] (by rfl) (by rfl) (World.news_of_block (cs:=#[.int .i64 (E:Int)]) (t:=3) (fr:=(0,0)) (heap_alloc_new w2 _)) (by simp [Value.oneCell']) (by omega) (by unfold maxLen;omega) (by omega) (by simp;omega) (w2.heap.size+1) (by simp) ?_;intro g cap5 w5 hown5 hgrow5 hat5 hlt5)
     have q1:=((AB H1).alloc (.cells #[.int .i64 (E:Int)] 3)).grown hgrow5 (by intro h;have:=(AB H2).lt w.heap.size h.symm;omega)
     have q3:=((AB H3).alloc (by omega) (.cells #[.int .i64 (E:Int)] 3)).grown hgrow5 (by simp;omega) (by intro k h;have:=(AB H2).lt k h;omega)
     have q4:w.heap.size+1<=w5.heap.size:=by have:=hgrow5.size;simp at this;omega
     rw [AB HE,NH (by omega)] at hown5
     have q2:=AC hown5
     have Q1:=AC q1
     have Q3:=AC q3
     clear hown5 q1 q3 hgrow5 hat5 H1 H2 H3
     go_wp2
     go_roundw
     case rel=>exact ⟨k,by omega,rfl,by rw [<-AB HE],AB Q1,by rw [show ss.length-k=ss.length-(k+1)+1 from by omega];exact AB q2,AB Q3,q4⟩
     case measure=>simp [intOf]
theorem Ye (a:Option Addr) (b off cap:Nat) (ss:List ByteArray) (w:World) (hn:ss.length<=1000) (ha:0<ss.length->a=some (pK b off)) (hbw:b<w.heap.size)
  (hcell:∀i,i<ss.length->w.cell? (pK b (off+i))=some (.string (ss.getD i ByteArray.empty))) (hok:CZ ss=true):
  Calls Tryz.prog 73 #[.slice a ss.length cap] w fun e w'=>∃g,e= .returned (.tuple #[.slice (some (pK g 0)) 2 2,.int .u64 (65024+(EE ss:Int)),.nilIface])/\AG w' g 166 (CF (Aa ss) 2)/\w.heap.size<=g/\Below w.heap.size w w':=by
 have HC:=AC hcell
 have HA:=AC ha
 have HO:=AC hok
 have hn8:=(Jk hok).1
 have hmk:∀w,(Instr.makeSlice 279 (.int .i64 ((ss.length:Int)+2)) (.int .i64 ((ss.length:Int)+2))).run Tryz.prog w= .ok (.slice (some (pK w.heap.size 0)) (ss.length+2) (ss.length+2)) (w.alloc (.cells (FJ (ss.length+2)) 75)):=by
  intro w
  have:=run_make_row' (P:=Tryz.prog) 279 75 (.int .u64 0) 8 Tryz.underlying279 cU rfl .i64 .i64 (ss.length+2) (by omega) (by omega) w
  rwa [show (((ss.length+2:Nat)):Int)=(ss.length:Int)+2 from by omega,Xa] at this
 have hz0:=Od (ss.length+2) 0 (by omega)
 clear hcell ha hok
 go_enter Tryz.func73,Tryz.ntmps73
 go_wp2_with fail
 refine (LX a b off cap ss _ hn (AB HA) (AB HC)).mono ?_
 rw [AB HO]
 rintro e wx ⟨rfl,hwx⟩
 subst hwx
 go_wp2_with (refine CA rfl 278 rfl KL Rq ?_)
 go_loopw [7,8] (fun at_ i wr=>∃k:Nat,k<=ss.length/\i= .int .i64 ((k:Int)-1)/\at_= .int .i64 ((512-Bg (ss.drop k):Nat):Int)/\AG wr wx.heap.size 278 (AJ (room (ss.drop k)))/\AG wr (wx.heap.size+1) 75 (Cw (EO ss k))/\Below wx.heap.size wx wr/\wx.heap.size+2<=wr.heap.size)
  (fun _ i _=>(intOf i+1).toNat)
 case atStart=>
  refine ⟨ss.length,zx _,rfl,?_,?_,?_,?_,?_⟩
  ·simp [Bg]
  ·rw [List.drop_length,room]
   exact (AG.new _ _ _).alloc _
  ·rw [Mx]
   have:=AG.new (wx.alloc (.cells KL 278)) 75 (Cw (((ss.length:Nat):Int)::List.replicate (ss.length+1) 0))
   simpa [EO,ED,List.replicate_succ'] using this
  ·exact ((zw _ _).alloc (zx _) _).alloc (by simp) _
  ·simp
 case round=>
  obtain ⟨k,hk,rfl,rfl,hroom,hwords,hbel,hsz⟩:=hrel
  have HRo:=AC hroom
  have HWo:=AC hwords
  have HBe:=AC hbel
  clear hroom hwords hbel
  rcases k with _|k
  ·have ht:Bg ss<=248:=by have:=Cr (AB HO) 0;simpa using this
   obtain ⟨T,hT⟩:∃T,T=512-Bg (ss.drop 0):=⟨_,rfl⟩
   rw [<-hT]
   rw [List.drop_zero] at hT
   obtain ⟨V,hV⟩:∃V,V=T-8*(ss.length+2):=⟨_,rfl⟩
   obtain ⟨X,hX⟩:∃X,X=EE ss:=⟨_,rfl⟩
   have hX2:X=V-V%16:=by rw [hX,EE,hV,hT];omega
   have q1:(T:Int)-8*((ss.length:Int)+2)=(V:Int):=by omega
   have q2:(V:Int)-(V:Int)%16=(X:Int):=by omega
   have hXV:X+8*(ss.length+2)<=512:=by omega
   have hX5:¬512=X:=by omega
   have hXle:(X:Int)<=512:=by omega
   have hX0:(0:Int)<=(X:Int):=by omega
   have hV0:(0:Int)<=(V:Int):=by omega
   have hV5:(V:Int)<=512:=by omega
   have hT5:(T:Int)<=512:=by omega
   have HX:=AC hX
   have hmp:=Wz
   have hrl:(room ss).length=512:=DH _ (by omega)
   have P:=KH wx.heap.size X (512-X) (512-X) 278 (room ss) (wx.heap.size+1) (ss.length+2) 75 (EF ss) wr (by simpa using AB HRo) (by rw [<-QJ];exact AB HWo) (by omega) (by rw [EN];omega) (by omega) (by omega)
   rw [EN] at P
   have HP:=AC P
   clear hT hV hX hX2 P hrl
   go_wp2_with fail
   refine (AB HP).mono ?_
   rintro e w3 ⟨rfl,hrm,hg3⟩
   have hst:AG w3 wx.heap.size 278 (AJ (Aa ss)):=by rw [Aa,<-AB HX];exact hrm
   have hb3:=AC ((AB HBe).trans (Ag hg3 (zx _) (by omega)))
   have hs3:wx.heap.size+2<=w3.heap.size:=by have:=hg3.size;omega
   have HST:=AC hst
   clear hst hrm hg3 HP HRo HWo HBe
   have hRl:=Cc (AB HO)
   have HRl:=AC hRl
   have hpl:=Ih (Aa ss) hRl
   have HPL:=AC hpl
   obtain ⟨R,hR⟩:∃R,R=Aa ss:=⟨_,rfl⟩
   rw [<-hR] at hRl
   have HRR:=AC hR
   clear hR hRl hpl
   go_wp2_with fail
   go_loopw [69] (fun i wr=>∃k:Nat,k<=2/\i= .int .i64 k/\AG wr w3.heap.size 166 (CF (Aa ss) k)/\AG wr wx.heap.size 278 (AJ (Aa ss))/\Below wx.heap.size wx wr) (fun i _=>2-(intOf i).toNat)
   case atStart=>exact ⟨0,by omega,rfl,AG.new _ _ _,(AB HST).alloc _,(AB hb3).alloc (by omega) _⟩
   case round=>
    obtain ⟨k,hk,rfl,hpg,hrm,hbl⟩:=hrel
    have hlt:=hpg.lt
    have cs:∀j,j<516->wr.cell? (pK w3.heap.size j)=some ((CF (Aa ss) k).getD j .nilIface):=fun j hj=>hpg.cell (by rw [List.getD,zz (by rw [AB HPL];exact hj)];rfl)
    have cf:∀j,wr.frozen? (pK w3.heap.size j)=false:=fun j=>hpg.frozen j
    have HPg:=AC hpg
    have HRm:=AC hrm
    have HBl:=AC hbl
    clear hpg hrm hbl
    have hk3:k=0\/k=1\/k=2:=by omega
    rcases hk3 with rfl|rfl|rfl
    ·have c0:=cs 0 (by omega)
     have c1:=cs 1 (by omega)
     have f0:=cf 0
     have f1:=cf 1
     generalize (CF (Aa ss) 0).getD 0 .nilIface=v0 at c0
     generalize (CF (Aa ss) 0).getD 1 .nilIface=v1 at c1
     clear cs cf
     rw [show ((0:Nat):Int)=(0:Int) from rfl]
     have hp1:=((AB HPg).set 0 (.int .i64 254)).set 1 (.int .u8 6)
     have hp2:=((AB HRm).set_other (c:=w3.heap.size) (by omega) 0 (.int .i64 254)).set_other (c:=w3.heap.size) (by omega) 1 (.int .u8 6)
     have hb4:=((AB HBl).setCell (p:=(pK w3.heap.size 0)) (by show wx.heap.size<=w3.heap.size;omega) (.int .i64 254)).setCell (p:=(pK w3.heap.size 1)) (by show wx.heap.size<=w3.heap.size;omega) (.int .u8 6)
     have wz0:IntKind.i64.wrap 0=0:=by decide
     have wz1:IntKind.i64.wrap 256=256:=by decide
     have HP1:=AC hp1
     have HP2:=AC hp2
     have HB4:=AC hb4
     clear hp1 hp2 hb4
     go_wp2
     go_region_held3 (fun _=>True) (trivial)
      ((refine EW (by rfl) _ _ 32 32 (by rfl) 5 Tryz.underlying32 Jo w3.heap.size 2 256 256 wx.heap.size 0 512 512 (by rfl) (by rfl) (((CF (Aa ss) 0).set 0 (.int .i64 254)).set 1 (.int .u8 6)) 166 (by exact (AB HP1).heap rfl) (AJ ((Aa ss).take 256)) (by rw [AM];simp [AB HRl]) (by exact fm HP2) (Dj _) (by rw [AM,yx,yx,AB HPL];simp [AB HRl]) ?_;intro w5 HR5 hg5))
     have r1:=AB HR5
     rw [SN _ (AB HRl)] at r1
     have hg6:((wr.setCell (pK w3.heap.size 0) (.int .i64 254)).setCell (pK w3.heap.size 1) (.int .u8 6)).grownBy w5 (some w3.heap.size):=⟨hg5.os,hg5.tape,hg5.output,hg5.size,hg5.block⟩
     have r2:=(AB HP2).grown hg6 (by simp;omega)
     have r3:=(AB HB4).trans (Ag hg6 (by omega) (by simp [World.setCell];omega))
     have H1:=AC r1
     have H2:=AC r2
     have H3:=AC r3
     clear r1 r2 r3 hg5 hg6
     go_wp2
     go_roundw
     case rel=>exact ⟨1,by omega,rfl,AB H1,AB H2,AB H3⟩
     case measure=>simp [intOf]
    ·have c0:=cs 258 (by omega)
     have c1:=cs 259 (by omega)
     have f0:=cf 258
     have f1:=cf 259
     generalize (CF (Aa ss) 1).getD 258 .nilIface=v0 at c0
     generalize (CF (Aa ss) 1).getD 259 .nilIface=v1 at c1
     clear cs cf
     rw [show ((1:Nat):Int)=(1:Int) from rfl]
     have hp1:=((AB HPg).set 258 (.int .i64 255)).set 259 (.int .u8 6)
     have hp2:=((AB HRm).set_other (c:=w3.heap.size) (by omega) 258 (.int .i64 255)).set_other (c:=w3.heap.size) (by omega) 259 (.int .u8 6)
     have hb4:=((AB HBl).setCell (p:=(pK w3.heap.size 258)) (by show wx.heap.size<=w3.heap.size;omega) (.int .i64 255)).setCell (p:=(pK w3.heap.size 259)) (by show wx.heap.size<=w3.heap.size;omega) (.int .u8 6)
     have wz0:IntKind.i64.wrap 0=0:=by decide
     have wz1:IntKind.i64.wrap 256=256:=by decide
     have HP1:=AC hp1
     have HP2:=AC hp2
     have HB4:=AC hb4
     clear hp1 hp2 hb4
     go_wp2
     go_region_held3 (fun _=>True) (trivial)
      ((refine EW (by rfl) _ _ 32 32 (by rfl) 5 Tryz.underlying32 Jo w3.heap.size 260 256 256 wx.heap.size 256 256 256 (by rfl) (by rfl) (((CF (Aa ss) 1).set 258 (.int .i64 255)).set 259 (.int .u8 6)) 166 (by exact (AB HP1).heap rfl) (AJ ((Aa ss).drop 256)) (by rw [AM];simp [AB HRl]) (by exact fq HP2) (Dj _) (by rw [AM,yx,yx,AB HPL];simp [AB HRl]) ?_;intro w5 HR5 hg5))
     have r1:=AB HR5
     rw [SO _ (AB HRl)] at r1
     have hg6:((wr.setCell (pK w3.heap.size 258) (.int .i64 255)).setCell (pK w3.heap.size 259) (.int .u8 6)).grownBy w5 (some w3.heap.size):=⟨hg5.os,hg5.tape,hg5.output,hg5.size,hg5.block⟩
     have r2:=(AB HP2).grown hg6 (by simp;omega)
     have r3:=(AB HB4).trans (Ag hg6 (by omega) (by simp [World.setCell];omega))
     have H1:=AC r1
     have H2:=AC r2
     have H3:=AC r3
     clear r1 r2 r3 hg5 hg6
     go_wp2
     go_roundw
     case rel=>exact ⟨2,by omega,rfl,AB H1,AB H2,AB H3⟩
     case measure=>simp [intOf]
    ·rw [show ((2:Nat):Int)=(2:Int) from rfl]
     clear cs cf
     go_wp2
     go_ret3
     exact ⟨w3.heap.size,by rw [<-AB HX];rfl,AB HPg,by omega,AB HBl⟩
  ·have ht:Bg (ss.drop (k+1))<=248:=Cr (AB HO) (k+1)
   have ht':Bg (ss.drop k)<=248:=Cr (AB HO) k
   have hts:=My (ss:=ss) (k:=k) (by omega)
   have hsz30:=QI (AB HO) (k:=k) (by omega)
   have e:=(AB HA) (by omega)
   subst e
   have hca:wr.cell? (pK b (off+k))=some (.string (ss.getD k ByteArray.empty)):=by
    rw [(AB HBe).cell (p:=(pK b (off+k))) hbw];exact (AB HC) k (by omega)
   obtain ⟨s,hs⟩:∃s,s=ss.getD k ByteArray.empty:=⟨_,rfl⟩
   rw [<-hs] at hca hts hsz30
   have HS:=AC hs
   have HT:=AC hts
   obtain ⟨U,hU⟩:∃U,U=512-Bg (ss.drop k):=⟨_,rfl⟩
   have hT:((512-Bg (ss.drop (k+1)):Nat):Int)=(U:Int)+((s.size:Int)+1):=by omega
   rw [hT]
   have HU:=AC hU
   have hb1:b<wr.drew.heap.size:=by show b<wr.heap.size;omega
   have hb2:b≠wx.heap.size:=by omega
   have hUn:U<512:=by omega
   have hUne:¬512=U:=by omega
   have hUs:U+s.size+1<=512:=by omega
   have hUl:264<=U:=by omega
   have hk8:k<8:=by omega
   have e1:(((k+1:Nat):Int)-1)=(k:Int):=by omega
   rw [e1]
   have hkn:(k:Int)<(ss.length:Int):=by omega
   have hk0:(0:Int)<=(k:Int):=by omega
   have hU0:(0:Int)<=(U:Int):=by omega
   have hU5:(U:Int)<=512:=by omega
   have hrl:(AJ (room (ss.drop (k+1)))).length=512:=by rw [AM,DH _ (by omega)]
   have HRL:=AC hrl
   clear hs hts hT hU e1 ht ht' hrl
   go_wp2
   go_region_held3 (fun w'=>w'.cell? (pK b (off+k))=some (.string s)) (first|go_keep|(rw [Ji hg2 hb1 hb2];assumption))
    ((refine Gm (by rfl) _ _ 32 9 (by rfl) 5 Tryz.underlying32 Jo wx.heap.size U (512-U) (512-U) s (by rfl) (by rfl) (AJ (room (ss.drop (k+1)))) 278 (by exact (AB HRo).heap rfl) (by omega) (by rw [AB HRL];omega) ?_;intro w2 HR2 hg2))
   have hwk:=((AB HWo).heap (W':=wr.drew) rfl).grown hg2 (by simp)
   have hwl:=Mm ss (k+1) hk
   have hc2:w2.cell? (pK (wx.heap.size+1) (k+1))=some (.int .u64 ((EO ss (k+1)).getD (k+1) 0)):=hwk.cell (KB _ _ (by omega))
   have hf2:w2.frozen? (pK (wx.heap.size+1) (k+1))=false:=hwk.frozen _
   have hg3:wr.grownBy w2 (some wx.heap.size):=⟨hg2.os,hg2.tape,hg2.output,hg2.size,hg2.block⟩
   have R1:=(AB HR2).set_other (c:=wx.heap.size+1) (by omega) (k+1) (.int .u64 (65024+(U:Int)))
   have eR:splice (room (ss.drop (k+1))) U (Fu s)=room (ss.drop k):=by rw [Pb (ss:=ss) (k:=k) (by omega),<-AB HS,<-AB HU]
   rw [Ig,B4,eR] at R1
   have R2:=hwk.set (k+1) (.int .u64 (65024+(U:Int)))
   have eW:(EO ss (k+1)).set (k+1) (65024+(U:Int))=EO ss k:=by
    have:=QK ss k (by omega)
    rwa [show ((65024+(512-Bg (ss.drop k)):Nat):Int)=65024+(U:Int) from by have:=AB HU;omega] at this
   rw [QE,eW] at R2
   have R3:=((AB HBe).trans (Ag hg3 (zx _) (by omega))).setCell (p:=(pK (wx.heap.size+1) (k+1))) (by simp) (.int .u64 (65024+(U:Int)))
   have hsz2:wx.heap.size+2<=w2.heap.size:=by have:=hg3.size;omega
   obtain ⟨x,hx⟩:∃x,x=(EO ss (k+1)).getD (k+1) 0:=⟨_,rfl⟩
   rw [<-hx] at hc2
   have H1:=AC R1
   have H2:=AC R2
   have H3:=AC R3
   clear R1 R2 R3 hwk hg2 hg3 hx hwl eR eW
   go_wp2
   go_roundw
   case rel=>exact ⟨k,by omega,rfl,by rw [<-AB HU],AB H1,AB H2,AB H3,by simp only [World.setCell,Array.size_modify];exact hsz2⟩
   case measure=>simp [intOf]
end
end Go.Proofs.YtdchgbmliojoiaaGreatDoor
