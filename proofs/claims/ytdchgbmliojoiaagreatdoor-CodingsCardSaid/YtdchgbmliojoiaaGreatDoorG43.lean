import Derived.Test.YtdchgbmliojoiaaGreatDoorG42
import Derived.Shelf.SlSortCmp.WholeK
import Derived.Test.YtdchgbmliojoiaaGreatDoorG40
import Derived.Shelf.SlSortCmp.NoneTotal
set_option maxRecDepth 100000
set_option maxHeartbeats 8000000
set_option linter.unusedVariables false
set_option linter.unusedSimpArgs false
set_option linter.unusedSectionVars false
namespace Go.Proofs.YtdchgbmliojoiaaGreatDoor
section
open Go Go.RowKit
theorem eK {a b:UInt8} (h1:¬a<b) (h2:¬b<a):a=b:=by
 rw [UInt8.lt_iff_toNat_lt] at h1 h2
 exact UInt8.toNat_inj.1 (by omega)
theorem Tw:∀a b:List UInt8,(Lib.compareBytes a b<0)↔Op.bytesLess a b=true
 |[],[]=>by simp [Lib.compareBytes,Op.bytesLess]
 |[],_::_=>by simp [Lib.compareBytes,Op.bytesLess]
 |_::_,[]=>by simp [Lib.compareBytes,Op.bytesLess]
 |a::x,b::y=>by
  have ih:=Tw x y
  unfold Lib.compareBytes Op.bytesLess
  by_cases h1:a<b
  ·simp [h1]
  ·by_cases h2:b<a
   ·have h3:a≠b:=fun e=>by subst e;exact h1 h2
    simp [h1,h2,h3]
   ·obtain rfl:=eK h1 h2
    simp [h1,ih]
theorem I7:∀a:List UInt8,Op.bytesLess a a=false
 |[]=>rfl
 |a::x=>by
  have:=I7 x
  unfold Op.bytesLess
  simp [this]
theorem II:∀a b c:List UInt8,Op.bytesLess a b=true->Op.bytesLess b c=true->Op.bytesLess a c=true
 |_,[],_,h,_=>by simp [Op.bytesLess] at h
 |_,_::_,[],_,h=>by simp [Op.bytesLess] at h
 |[],_::_,_::_,_,_=>by simp [Op.bytesLess]
 |a::x,b::y,c::z,h1,h2=>by
  have ih:=II x y z
  unfold Op.bytesLess at h1 h2 ⊢
  simp only [Bool.or_eq_true,decide_eq_true_eq,Bool.and_eq_true,beq_iff_eq] at h1 h2 ⊢
  rcases h1 with h1|⟨rfl,h1⟩
  ·rcases h2 with h2|⟨rfl,h2⟩
   ·left;rw [UInt8.lt_iff_toNat_lt] at*;omega
   ·exact .inl h1
  ·rcases h2 with h2|⟨rfl,h2⟩
   ·exact .inl h2
   ·exact .inr ⟨rfl,ih h1 h2⟩
theorem J9:∀a b:List UInt8,Op.bytesLess a b=false->Op.bytesLess b a=false->a=b
 |[],[],_,_=>rfl
 |[],_::_,h,_=>by simp [Op.bytesLess] at h
 |_::_,[],_,h=>by simp [Op.bytesLess] at h
 |a::x,b::y,h1,h2=>by
  have ih:=J9 x y
  unfold Op.bytesLess at h1 h2
  simp only [Bool.or_eq_false_iff,decide_eq_false_iff_not,Bool.and_eq_false_iff,beq_eq_false_iff_ne] at h1 h2
  obtain rfl:=eK h1.1 h2.1
  rw [ih (by rcases h1.2 with q|q;exact absurd rfl q;exact q) (by rcases h2.2 with q|q;exact absurd rfl q;exact q)]
theorem MC (a b c:List UInt8) (h1:Op.bytesLess a b=false) (h2:Op.bytesLess b c=false):Op.bytesLess a c=false:=by
 cases h:Op.bytesLess a c with
 |false=>rfl
 |true=>
  cases hcb:Op.bytesLess c b with
  |true=>rw [II a c b h hcb] at h1;cases h1
  |false=>
   obtain rfl:=J9 b c h2 hcb
   rw [h1] at h
   cases h
def Eb (p:PK) (j:Nat):List UInt8:=(Bm p j).path.data.toList
def GR (p:PK) (i j:Nat):Bool:= !Op.bytesLess (Eb p j) (Eb p i)
def IL0 (p:PK):List Nat:=(List.range' 1 (p.xs.length-1)).mergeSort (GR p)
def FL0 (p:PK):List AV:=(IL0 p).map (Bm p)
theorem LM {p:PK} (hi:Bo p) {i j:Nat} (h1:i<p.xs.length) (h2:j<p.xs.length) (h:Eb p i=Eb p j):i=j:=by
 have e:∀k (hk:k<p.xs.length),Eb p k=(Ci p.xs (p.xs[k]).id).data.toList:=fun k hk=>by
  unfold Eb Bm
  rw [zz hk]
 rw [e i h1,e j h2] at h
 exact bi hi i j _ _ (zz h1) (zz h2) h
theorem OG (p:PK):(IL0 p).Perm (List.range' 1 (p.xs.length-1)):=List.mergeSort_perm _ _
theorem OH (p:PK):(IL0 p).Pairwise (fun i j=>GR p i j=true):=by
 refine List.pairwise_mergeSort (fun a b c h1 h2=> ?_) (fun a b=> ?_) _
 ·unfold GR at*
  simp only [Bool.not_eq_true'] at*
  exact MC _ _ _ h2 h1
 ·unfold GR
  cases h1:Op.bytesLess (Eb p b) (Eb p a) with
  |false=>simp
  |true=>
   cases h2:Op.bytesLess (Eb p a) (Eb p b) with
   |false=>simp
   |true=>
    have:=II _ _ _ h1 h2
    rw [I7] at this
    cases this
theorem IJ {p:PK} {j:Nat}:j∈IL0 p↔1<=j/\j<p.xs.length:=by
 rw [(OG p).mem_iff,List.mem_range'_1]
 omega
theorem LN (p:PK):(IL0 p).Nodup:=(OG p).symm.nodup (List.nodup_range' (h:=by decide))
theorem Vl {p:PK}:(IL0 p).length=p.xs.length-1:=by rw [(OG p).length_eq,List.length_range']
theorem bj {p:PK} (hi:Bo p) {IL:List Nat} (hn:IL.Nodup) (hm:∀j,j∈IL↔1<=j/\j<p.xs.length) (hs:IL.Pairwise (fun i j=>GR p i j=true)):IL=IL0 p:=by
 refine List.Perm.eq_of_pairwise (le:=fun i j=>GR p i j=true) (fun a b ha hb h1 h2=> ?_) hs (OH p) ((List.perm_ext_iff_of_nodup hn (LN p)).2 (fun j=>by rw [hm,IJ]))
 unfold GR at h1 h2
 simp only [Bool.not_eq_true'] at h1 h2
 exact LM hi ((hm a).1 ha).2 (IJ.1 hb).2 (J9 _ _ h2 h1)
theorem Vm {p:PK} (hi:Bo p) {x0:Ino} (h0:p.xs[0]? =some x0) (h01:x0.id=1):D5 p.xs p.xs.length=p.xs.length-1:=by
 unfold D5
 rw [List.take_length]
 have hne:∀(j:Nat) (y:Ino),p.xs[j]? =some y->0<j->Fp y=true:=by
  intro j y hy hj
  unfold Fp
  have:y.parent≠0:=fun e=>by
   have h1:=(hi.root1 y (zv hy) e).1
   have:=Gt hi.incr h0 hy (by omega)
   omega
  simpa using this
 have h00:Fp x0=false:=by
  unfold Fp
  have:x0.parent=0:=by
   have:=hi.down x0 (zv h0)
   apply Classical.byContradiction
   intro q
   obtain ⟨m,x,hm,hx,_,hk⟩:=FQ hi h0 q
   have:=hk.lt hi
   omega
  simp [this]
 cases hx:p.xs with
 |nil=>rfl
 |cons a r=>
  rw [hx] at h0 hne
  have e:a=x0:=by simpa using h0
  subst e
  rw [List.filter_cons_of_neg (by rw [h00];decide),List.filter_eq_self.2 (fun y hy=> ?_)]
  ·simp
  ·obtain ⟨j,hj⟩:=yo.1 hy
   exact hne (j+1) y (by simpa using hj) (by omega)
theorem Vn {IL:List Nat} {p:PK} {m j:Nat} (h:IL[m]? =some j):LD (IL.map (Bm p)) (m+1)=(Bm p j).path:=by
 show (match (IL.map (Bm p))[m]? with|some f=>f.path|none=>ByteArray.empty)=_
 rw [ze,h]
 rfl
theorem Yp {p:PK} (hi:Bo p) {x0:Ino} (h0:p.xs[0]? =some x0) (h01:x0.id=1):Pp p.xs p.cs (FL0 p):=by
 refine ⟨fun i x c hx hc hp=> ?_,?_,fun m f hf=> ?_⟩
 ·have hil:=(zy.1 hx).1
  have hi0:1<=i:=by
   apply Classical.byContradiction
   intro q
   have e:i=0:=by omega
   subst e
   obtain ⟨m,y,hm,_,_,hk⟩:=FQ hi hx hp
   have:=hk.lt hi
   omega
  obtain ⟨J,hJ⟩:=yo.1 (IJ.2 ⟨hi0,hil⟩)
  refine ⟨J,?_,fun j f hf he=> ?_⟩
  ·unfold FL0
   rw [ze,hJ]
   show some (Bm p i)=_
   rw [LL hx hc]
  ·unfold FL0 at hf
   rw [ze] at hf
   obtain ⟨k,hk,rfl⟩:=Option.map_eq_some_iff.1 hf
   have hkm:=IJ.1 (zv hk)
   have e1:Eb p k=Eb p i:=by
    unfold Eb
    rw [ByteArray.toList_eq,ByteArray.toList_eq] at he
    have:=eq_of_beq he
    rw [this,LL hx hc]
   have e2:=LM hi hkm.2 hil e1
   subst e2
   obtain ⟨a1,a2⟩:=zy.1 hk
   obtain ⟨b1,b2⟩:=zy.1 hJ
   exact (List.getElem_inj (LN p)).1 (a2.trans b2.symm)
 ·rw [Vm hi h0 h01]
  unfold FL0
  rw [zc,Vl]
 ·unfold FL0 at hf ⊢
  rw [ze] at hf
  obtain ⟨k,hk,rfl⟩:=Option.map_eq_some_iff.1 hf
  have hkm:=IJ.1 (zv hk)
  rw [ByteArray.toList_eq,ByteArray.toList_eq]
  cases m with
  |zero=>
   show Op.bytesLess (Bm p k).path.data.toList []=false/\((Bm p k).path.data.toList==[])=false
   refine ⟨by cases (Bm p k).path.data.toList<;>rfl,?_⟩
   obtain ⟨y,hy⟩:∃y,p.xs[k]? =some y:=⟨_,zz hkm.2⟩
   have hyp:y.parent≠0:=fun e=>by
    have h1:=(hi.root1 y (zv hy) e).1
    have:=Gt hi.incr h0 hy (by omega)
    omega
   have:(Bm p k).path=Ci p.xs y.id:=by unfold Bm;rw [hy]
   rw [this,Hd hi hy hyp]
   simp
  |succ m=>
   obtain ⟨j,hj⟩:∃j,(IL0 p)[m]? =some j:=⟨_,zz (by have:=(zy.1 hk).1;omega)⟩
   rw [Vn hj]
   obtain ⟨a1,a2⟩:=zy.1 hj
   obtain ⟨b1,b2⟩:=zy.1 hk
   have hle:=List.pairwise_iff_getElem.1 (OH p) m (m+1) a1 b1 (by omega)
   rw [a2,b2] at hle
   unfold GR at hle
   simp only [Bool.not_eq_true'] at hle
   refine ⟨hle,?_⟩
   rw [beq_eq_false_iff_ne]
   intro e
   have hjm:=IJ.1 (zv hj)
   have:=LM hi hkm.2 hjm.2 e
   subst this
   have:=(List.getElem_inj (LN p)).1 (a2.trans b2.symm)
   omega
end
section
open Go Go.RowKit Go.Maps
def cfE (p:PK) (e f:Nat×BN):Int:=Lib.compareBytes (Eb p e.1) (Eb p f.1)
theorem ltE (p:PK) (e f:Nat×BN):ltOf (cfE p) e f=Op.bytesLess (Eb p e.1) (Eb p f.1):=by
 unfold ltOf cfE
 rw [show decide (Lib.compareBytes (Eb p e.1) (Eb p f.1)<0)=decide (Op.bytesLess (Eb p e.1) (Eb p f.1)=true) from decide_eq_decide.2 (Tw _ _)]
 simp
theorem gU (p:PK):Go.Sort.SWO (ltOf (cfE p)) where
 irrefl x:=by rw [ltE];exact I7 _
 trans x y z h1 h2:=by rw [ltE] at*;exact II _ _ _ h1 h2
 ntrans x y z h1 h2:=by rw [ltE] at*;exact MC _ _ _ h1 h2
theorem Rc (p:PK) (e f:Nat×BN) (W:World):Calls Tryz.prog 205 #[.agg (CY p e).toArray,.agg (CY p f).toArray] W fun r w'=>r= .returned (.int .i64 (cfE p e f))/\∃q os',w'=Go.Sort.grow (W.drewN q) os':=by
 have H:=AC (show ∀w,Calls Tryz.prog 206 #[.string (Bm p e.1).path,.string (Bm p f.1).path] w fun r w'=>r= .returned (.int .i64 (cfE p e f))/\w'=w from fun w=>Any.strings_Compare YB _ _ w)
 generalize cfE p e f=r at H ⊢
 unfold CY D8
 generalize (Bm p e.1).path=s1 at H ⊢
 generalize (Bm p f.1).path=s2 at H ⊢
 go_enter Tryz.func205,Tryz.ntmps205
 go_wp2_with (go_at_call 206;refine (AB H _).mono ?_;rintro e w' ⟨rfl,rfl⟩)
 go_ret
 exact ⟨rfl,0,_,by rw [Go.Sort.alloc_eq_grow,Go.Sort.alloc_eq_grow,Go.Sort.grow_grow];rfl⟩
theorem Kt (p:PK):∀(EL:List (Nat×BN)) (i j:Nat) (e:Nat×BN),j<3->EL[i]? =some e->(BT p EL)[i*3+j]? =(CY p e)[j]?
 |[],i,j,s,_,h=>by simp at h
 |x::r,0,j,s,hj,h=>by
  obtain rfl:x=s:=by simpa using h
  rw [BT,List.flatMap_cons,Nat.zero_mul,zq,zp (show j<(CY p x).length from hj)]
 |x::r,i+1,j,s,hj,h=>by
  have ih:=Kt p r i j s hj (by simpa using h)
  rw [BT,List.flatMap_cons,zo (show (CY p x).length<=(i+1)*3+j from by show 3<=_;omega)]
  rw [show (i+1)*3+j-(CY p x).length=i*3+j from by show (i+1)*3+j-3=_;omega]
  exact ih
section
variable [Inhabited BN]
theorem Vo (p:PK) (EL:List (Nat×BN)):Go.Sort.flatK (CY p) 3 EL.toArray=(BT p EL).toArray:=by
 apply Go.Sort.ext_get!
 ·simp [Fq]
 ·intro t ht
  have ht':t<EL.length*3:=by simpa using ht
  rw [Go.Sort.get_flatK _ _ _ _ (by simpa using ht')]
  have hi:t/3<EL.length:=by omega
  have h:=Kt p EL (t/3) (t%3) EL[t/3] (Nat.mod_lt _ (by omega)) (zz hi)
  rw [show t/3*3+t%3=t from by omega] at h
  have e:EL.toArray[t/3]! =EL[t/3]:=by simp [getElem!_pos,hi]
  rw [e]
  simp only [List.getElem!_toArray,List.getElem!_eq_getElem?_getD,h]
theorem bk {w:World} {B g c:Nat} {p:PK} {EL:List (Nat×BN)} (h:w.ownsRow B 46 3 (.slice (some (pK g 0)) EL.length c) EL.length (BT p EL)):Go.Sort.HoldsK (CY p) 3 w g 0 EL.toArray:=by
 unfold Go.Sort.HoldsK
 rw [Vo]
 intro j hj
 rw [zq]
 have hj':j<(BT p EL).length:=by simpa using hj
 have hj3:j<EL.length*3:=by rw [Fq] at hj';exact hj'
 obtain ⟨v,_,hf⟩:=El h j hj3
 refine ⟨?_,hf⟩
 rw [h.cellAt j hj3,zz hj']
 simp [getElem!_pos,hj']
theorem Vp {α:Type} (enc:α->List Value) (k:Nat) (w:World) (g n:Nat) (d:Array α) (os:Array Obj) [Inhabited α]:w.grownBy (sortWorldK enc k w g 0 n d os) (some g):=by
 unfold sortWorldK Go.Sort.grow Go.Sort.putRowK Go.Sort.putRow Go.Sort.mapBlock Go.Sort.ahead
 refine ⟨rfl,rfl,rfl,by simp,fun k hk hne=> ?_⟩
 simp only
 rw [Array.getElem?_append_left (by simpa using hk),Array.getElem?_modify,if_neg (fun e=>hne (by rw [e]))]
theorem PD (p:PK) (B g c:Nat) (EL:List (Nat×BN)) (w:World) (h:w.ownsRow B 46 3 (.slice (some (pK g 0)) EL.length c) EL.length (BT p EL)) (hl:EL.length<=100000):
  Calls Tryz.prog 204 #[.slice (some (pK g 0)) EL.length c,.func (.func 205) #[] #[]] w fun e w'=>
   e= .returned (.tuple #[])/\∃EL':List (Nat×BN),EL'.Perm EL/\(EL'.map Prod.fst).Pairwise (fun i j=>GR p i j=true)/\Go.Sort.HoldsK (CY p) 3 w' g 0 EL'.toArray/\w.grownBy w' (some g):=by
 have eg:∀args w,(callFunc 205 args).run Tryz.prog w= .ok (.enter 205 args) w:=enters_of Tryz.func205 (by kernel_rfl) rfl
 have hgl:=(h.lt g rfl).2
 have hcon:=AnyQ.slices_SortFunc Pr 3 Tryz.isAgg46 Tryz.sizeOf46 (CY p) (fun _=>rfl) (I6 p) (cfE p) (gU p) 205 #[] g 0 c EL.toArray w eg (fun _ _ _ _ x y=>Rc p x y _) (bk h) hgl (by simp;omega)
 change Calls Tryz.prog 204 #[.slice (some (pK g 0)) EL.length c,.func (.func 205) #[] #[]] w _ at hcon
 refine hcon.mono ?_
 rintro e w' ⟨he,d',n,os,hp,hs,rfl⟩
 have hsz:=hp.1
 simp only [List.size_toArray] at hsz
 refine ⟨he,d'.toList,?_,?_,?_,Vp _ _ _ _ _ _ _⟩
 ·have:=hp.2.2
  simp only [List.size_toArray] at this
  rw [show d'.extract 0 EL.length=d' from by rw [<-hsz];simp] at this
  simpa using this
 ·rw [List.pairwise_map,List.pairwise_iff_getElem]
  intro i j hi hj hij
  have:=hs i j (Nat.zero_le _) hij (by simp only [List.size_toArray];simpa [hsz] using hj)
  rw [ltE] at this
  have hj':j<d'.size:=by simpa using hj
  have hi':i<d'.size:=by simpa using hi
  rw [getElem!_pos d' j hj',getElem!_pos d' i hi'] at this
  unfold GR
  simp only [Array.getElem_toList,this,Bool.not_false]
 ·have:=holdsK_sortWorldK_c (enc:=CY p) (k:=3) (w:=w) (blk:=g) (off:=0) EL.toArray d' n os (bk h) hgl (by simpa using hsz)
  simpa using this
end
def En (Q:Nat) (e:Nat×BN):BN:=⟨e.2.a,(match e.2.a with|some ad=>ad.block|none=>Q),0,e.2.c⟩
theorem Tx {p:PK} (hi:Bo p) {x0:Ino} (h0:p.xs[0]? =some x0) (h01:x0.id=1) (j:Nat):Cq p.xs 0 j↔1<=j/\j<p.xs.length:=
 ⟨fun h=>⟨by have:=h.lt hi;omega,h.bound⟩,fun h=>Ym hi h0 h01 j (by omega) h.2⟩
section
variable [Inhabited BN]
theorem Vq {p:PK} (hi:Bo p) {x0:Ino} (h0:p.xs[0]? =some x0) (h01:x0.id=1) {w w1 w':World} {g c:Nat} {EL EL':List (Nat×BN)} (hrep:GU p w1 w.heap.size (.slice (some (pK g 0)) EL.length c) EL) (hnd:(EL.map Prod.fst).Nodup) (hmem:∀j,j∈EL.map Prod.fst↔Cq p.xs 0 j) (hb1:Below w.heap.size w w1)
  (hperm:EL'.Perm EL) (hs:(EL'.map Prod.fst).Pairwise (fun i j=>GR p i j=true)) (hH:Go.Sort.HoldsK (CY p) 3 w' g 0 EL'.toArray) (hg:w1.grownBy w' (some g)):CS w (FL0 p) (.returned (.slice (some (pK g 0)) EL.length c)) w':=by
 have hpm:=hperm.map Prod.fst
 have hIL:EL'.map Prod.fst=IL0 p:=bj hi (hpm.symm.nodup hnd) (fun j=>by rw [hpm.mem_iff,hmem j,Tx hi h0 h01]) hs
 have hFL:FL0 p=EL'.map (fun e=>Bm p e.1):=by unfold FL0;rw [<-hIL,List.map_map];rfl
 have hlen:(FL0 p).length=EL.length:=by rw [hFL,zc,hperm.length_eq]
 have hgl:=hrep.row.lt g rfl
 have hsz:=hg.size
 have hbw:Below w.heap.size w w':=hb1.trans (Ag hg hgl.1 hb1.size)
 have heach:∀e∈EL',w'.ownsRow w.heap.size 5 1 (D8 p e) (Bm p e.1).bytes.length (AJ (Bm p e.1).bytes):=fun e he=>by
  have he':=hperm.mem_iff.1 he
  refine (hrep.each e he').kept hg ?_
  by_cases hb:DT e=none
  ·left;rw [Gk];exact hb
  ·right;rw [Gk];exact fun q=>hrep.own e he' hb q.symm
 have hform:∀e∈EL',0<(Bm p e.1).bytes.length->∃gg,e.2.a=some (pK gg 0)/\w.heap.size<=gg/\gg<w'.heap.size/\gg≠g:=fun e he hpos=>by
  obtain ⟨gg,cap,hv,hb,hl⟩:=(heach e he).form hpos
  have ha:e.2.a=some (pK gg 0):=by unfold D8 at hv;injection hv
  refine ⟨gg,ha,hb,hl,fun q=> ?_⟩
  have hbe:DT e=some gg:=by unfold DT;rw [ha];rfl
  exact hrep.own e (hperm.mem_iff.1 he) (by rw [hbe];simp) (by rw [hbe,q];rfl)
 have hap:=(List.Perm.pairwise_iff (R:=fun e f:Nat×BN=>DT e≠none->DT e≠DT f) (fun {x y} h hn q=>h (by rw [<-q];exact hn) q.symm) hperm).2 hrep.apart
 refine ⟨some (pK g 0),g,c,EL'.map (En w'.heap.size),by rw [hlen],fun _=>⟨rfl,by omega⟩,hbw,by rw [hFL,zc,zc],fun i f l _ hf hl=> ?_,fun i j f l m hf hl hm hne hpos=> ?_⟩
 ·rw [hFL,ze] at hf
  obtain ⟨e,he,rfl⟩:=Option.map_eq_some_iff.1 hf
  rw [ze,he] at hl
  obtain rfl:=zr hl
  have hem:=zv he
  obtain ⟨hil,hie⟩:=zy.1 he
  have hia:i<EL'.toArray.size:=by simpa using hil
  have hE:(EL'.toArray)[i]! =e:=by rw [getElem!_pos EL'.toArray i hia];simpa using hie
  have hcell:∀k:Nat,k<3->w'.cell? (pK g (i*3+k))=some ((CY p e)[k]!):=fun k hk=>by
   have:=(hH.cell hia hk).1
   rw [zq,hE] at this
   exact this
  have hloc:0<(Bm p e.1).bytes.length->(En w'.heap.size e).a=some (pK ((En w'.heap.size e).q) ((En w'.heap.size e).o))/\w.heap.size<=(En w'.heap.size e).q/\(En w'.heap.size e).q<w'.heap.size/\(En w'.heap.size e).q≠g:=fun hpos=>by
   obtain ⟨gg,ha,h1,h2,h3⟩:=hform e hem hpos
   have hq:(En w'.heap.size e).q=gg:=by unfold En;rw [ha]
   have hla:(En w'.heap.size e).a=some (pK gg 0):=ha
   rw [hq,hla]
   exact ⟨rfl,h1,h2,h3⟩
  have hown:0<(Bm p e.1).bytes.length->w'.ownsRow w.heap.size 5 1 (.slice (some (pK ((En w'.heap.size e).q) 0)) (Bm p e.1).bytes.length e.2.c) (Bm p e.1).bytes.length (AJ (Bm p e.1).bytes):=fun hpos=>by
   have h1:=heach e hem
   have h2:=(hloc hpos).1
   unfold D8 at h1
   rw [show e.2.a=some (pK ((En w'.heap.size e).q) 0) from h2] at h1
   exact h1
  refine ⟨by have:=hcell 0 (by omega);rw [Nat.add_zero] at this;exact this,hcell 1 (by omega),hcell 2 (by omega),hloc,fun j hj=> ?_,fun k hk=> ?_⟩
  ·have h1:=hown (by omega)
   show w'.cell? (pK ((En w'.heap.size e).q) (0+j))=_
   rw [zq,h1.cellAt j (by omega)]
   exact AT _ j hj
  ·obtain ⟨v,_,h3⟩:=El (hown (by omega)) k (by omega)
   show w'.frozen? (pK ((En w'.heap.size e).q) (0+k))=false
   rw [zq]
   exact h3
 ·rw [hFL,ze] at hf
  obtain ⟨e,he,rfl⟩:=Option.map_eq_some_iff.1 hf
  rw [ze,he] at hl
  obtain rfl:=zr hl
  rw [ze] at hm
  obtain ⟨d,hd,rfl⟩:=Option.map_eq_some_iff.1 hm
  obtain ⟨gg,ha,h1,h2,h3⟩:=hform e (zv he) hpos
  have hq:(En w'.heap.size e).q=gg:=by unfold En;rw [ha]
  have hbe:DT e=some gg:=by unfold DT;rw [ha];rfl
  rw [hq]
  intro q
  cases hda:d.2.a with
  |none=>
   have:(En w'.heap.size d).q=w'.heap.size:=by unfold En;rw [hda]
   omega
  |some ad=>
   have hqd:(En w'.heap.size d).q=ad.block:=by unfold En;rw [hda]
   have hbd:DT d=some ad.block:=by unfold DT;rw [hda];rfl
   obtain ⟨i1,i2⟩:=zy.1 he
   obtain ⟨j1,j2⟩:=zy.1 hd
   have hpw:=List.pairwise_iff_getElem.1 hap
   have heq:DT e=DT d:=by rw [hbe,hbd,q,hqd]
   rcases Nat.lt_or_gt_of_ne hne with q1|q1
   ·have:=hpw i j i1 j1 q1
    rw [i2,j2] at this
    exact this (by rw [hbe];simp) heq
   ·have:=hpw j i j1 i1 q1
    rw [i2,j2] at this
    exact this (by rw [hbd];simp) heq.symm
end
def LO (c:Int):Ending:= .returned (.tuple #[.pointer none,.iface 47 (.int .i64 c)])
def GC (lp lf lo li lb:Int) (FZ:List AV) (w:World) (e:Ending) (w':World):Prop:=
 Below w.heap.size w w'/\((∃c,FX lp lf lo li lb FZ c/\e=LO c)\/(E5 lp lf lo li lb FZ/\∃kb tb ab am cb pm pb NB MB V,e= .returned (.tuple #[pq kb 0,.nilIface])/\bZ w' w.heap.size kb ((B6 lp lf lo li lb).puts FZ).2 tb ab am cb pm pb NB MB V))
def JS (FZ:List AV) (j:Nat):Nat:=((FZ.take j).map (fun f=>f.bytes.length)).sum
structure Ty (lp lf lo li lb:Int) (FZ:List AV) (w:World) (tb ab am j:Nat) (wr:World) (q:PK) (NB MB:List Nat) (V:List Value):Prop where
 puts:(B6 lp lf lo li lb).puts (FZ.take j)=(0,q)
 rep:BY wr w.heap.size tb ab am q NB MB V
 below:Below w.heap.size w wr
 size:P2 lp lf lo li lb j (JS FZ j) q
 fit:Vd q
theorem OI {FZ:List AV} {j:Nat} {f:AV} (h:FZ[j]? =some f):JS FZ (j+1)=JS FZ j+f.bytes.length:=by
 unfold JS
 rw [List.take_add_one,h]
 simp
theorem Tz (FZ:List AV) (j:Nat):JS FZ j<=(FZ.map (fun f=>f.bytes.length)).sum:=by
 unfold JS
 have:FZ.map (fun f=>f.bytes.length)=(FZ.take j).map (fun f=>f.bytes.length)++(FZ.drop j).map (fun f=>f.bytes.length):=by rw [<-xt,List.take_append_drop]
 rw [this,List.sum_append]
 omega
theorem Ty.inv {lp lf lo li lb:Int} {FZ:List AV} {W0:World} {tb ab am j:Nat} {wr:World} {q:PK} {NB MB:List Nat} {V:List Value} (h:Ty lp lf lo li lb FZ W0 tb ab am j wr q NB MB V):Bo q:=by
 have:=Si lp lf lo li lb (FZ.take j)
 rw [h.puts] at this
 exact this
theorem Yq (lp lf lo li lb mm:Int) (va:Option Addr) (vb vcap:Nat) (FZ:List AV) (LS:List BN) (w:World) (hn:FZ.length<=100) (hsum:(FZ.map (fun f=>f.bytes.length)).sum<=200000) (hps:∀f∈FZ,f.path.size<=maxLen/\AY f.bytes) (hva:0<FZ.length->va=some (pK vb 0)/\vb<w.heap.size) (hf:Cz w vb 0 FZ LS)
  (ht:w.rangeAt 1 0 EU) (hgw:1<w.heap.size) (hmm:w.cell? (pK 3 0)=some (.int .i64 mm)) (hml:3<w.heap.size):
  Calls Tryz.prog 13 #[.agg #[.int .i64 lp,.int .i64 lf,.int .i64 lo,.int .i64 li,.int .i64 lb],.slice va FZ.length vcap] w (GC lp lf lo li lb FZ w):=by
 obtain ⟨W0,hW0⟩:∃W0,W0=w.alloc (Obj.cells #[.int .i64 lp,.int .i64 lf,.int .i64 lo,.int .i64 li,.int .i64 lb] 23):=⟨_,rfl⟩
 have hb0:Below w.heap.size w W0:=by rw [hW0];exact (zw _ _).alloc (zx _) _
 have hn0:AG W0 w.heap.size 23 [.int .i64 lp,.int .i64 lf,.int .i64 lo,.int .i64 li,.int .i64 lb]:=by rw [hW0];exact AG.new w 23 _
 have HAL:=AC (Oo lp lf lo li lb W0)
 have HFB:=AC (show ∀w',Below w.heap.size w w'->∀(i:Nat) (f:AV) (l:BN),FZ[i]? =some f->LS[i]? =some l->w'.cell? (pK vb (i*3))=some (.string f.path)/\w'.cell? (pK vb (i*3+1))=some (.bool f.dir)/\w'.cell? (pK vb (i*3+2))=some (.slice l.a f.bytes.length l.c)/\(0<f.bytes.length->l.a=some (pK l.q l.o)/\l.q<w.heap.size)/\BC w' l.q l.o f.bytes from fun w' h i f l hi hli=>by
  obtain ⟨x0,x1,x2,x3,x4⟩:=hf.at_ i f l hi hli
  have h0:0<FZ.length:=by have:=(zy.1 hi).1;omega
  have hfb:=(hva h0).2
  rw [zq] at x0 x1 x2
  refine ⟨by rw [h.cell (p:=(pK vb (i*3))) hfb];exact x0,by rw [h.cell (p:=(pK vb (i*3+1))) hfb];exact x1,by rw [h.cell (p:=(pK vb (i*3+2))) hfb];exact x2,x3,fun j hj=> ?_⟩
  rw [h.cell (p:=(pK l.q (l.o+j))) (x3 (by omega)).2]
  exact x4 j hj)
 have HVA:=AC (show 0<FZ.length->va=some (pK vb 0) from fun h=>(hva h).1)
 have HLEN:=AC hf.len
 have HPS:=AC hps
 have HT:=AC ht
 have HMM:=AC hmm
 have HGL:=AC (And.intro hgw (And.intro hml hsum))
 have HW0:=AC hW0
 have HB0:=AC hb0
 have HN0:=AC hn0
 clear hps hva hf ht hmm hgw hml hW0 hb0 hn0 hsum
 go_enter Tryz.func13,Tryz.ntmps13
 go_upto_region 1 with fail
 rw [<-AB HW0]
 have k0:W0.cell? (pK w.heap.size 0)=some (.int .i64 lp):=(AB HN0).cell rfl
 have k1:W0.cell? (pK w.heap.size 1)=some (.int .i64 lf):=(AB HN0).cell rfl
 have k2:W0.cell? (pK w.heap.size 2)=some (.int .i64 lo):=(AB HN0).cell rfl
 have k3:W0.cell? (pK w.heap.size 3)=some (.int .i64 li):=(AB HN0).cell rfl
 have k4:W0.cell? (pK w.heap.size 4)=some (.int .i64 lb):=(AB HN0).cell rfl
 go_wp2_with fail
 refine (AB HAL).mono ?_
 rintro e w1 ⟨(⟨rfl,hlim⟩|⟨rfl,hlim⟩),hb1⟩
 case inr=>
  have HP:=AC (show GC lp lf lo li lb FZ w (LO 6) w1 from ⟨(AB HB0).trans (hb1.mono (AB HB0).size),.inl ⟨6,.inl ⟨hlim,rfl⟩,rfl⟩⟩)
  clear hlim hb1 k0 k1 k2 k3 k4 HAL
  go_wp2
  go_ret2
  exact AB HP
 have hn1:=(AB HN0).below hb1 (AB HN0).lt
 have hb1w:=(AB HB0).trans (hb1.mono (AB HB0).size)
 have k3':w1.cell? (pK w.heap.size 3)=some (.int .i64 li):=hn1.cell rfl
 have k4':w1.cell? (pK w.heap.size 4)=some (.int .i64 lb):=hn1.cell rfl
 have HNEW:=AC (Xw li lb mm w1 (by rw [hb1w.cell (p:=(pK 3 0)) (AB HGL).2.1];exact AB HMM) (by have:=(AB HGL).2.1;have:=hb1w.size;omega) ⟨hlim.2.2.2.2.2.2.1,by have:=hlim.2.2.2.2.2.2.2.1;omega⟩ ⟨hlim.2.2.2.2.2.2.2.2.1,by have:=hlim.2.2.2.2.2.2.2.2.2;omega⟩)
 have HLIM:=AC hlim
 have HN1:=AC hn1
 have HB01:=AC hb1
 have HB1:=AC hb1w
 clear hlim hn1 hb1 hb1w k0 k1 k2 k3 k4 HAL
 go_wp2_with fail
 refine (AB HNEW).mono ?_
 rintro e w2 ⟨hb2,(⟨hli,rfl⟩|⟨hli,tb,ab,am,nb,nm,rfl,htr⟩)⟩
 ·have HP:=AC (show GC lp lf lo li lb FZ w (LO 12) w2 from ⟨(AB HB1).trans (hb2.mono (AB HB1).size),.inl ⟨12,.inr ⟨AB HLIM,.inl ⟨by have:=(AB HLIM).2.2.2.2.2.2.1;omega,rfl⟩⟩,rfl⟩⟩)
  clear hb2 hli k3' k4' HNEW
  go_wp2
  go_ret2
  exact AB HP
 have hb2w:=(AB HB1).trans (hb2.mono (AB HB1).size)
 have HLI:=AC hli
 have HR0:=AC (show ∃q NB MB V,Ty lp lf lo li lb FZ W0 tb ab am 0 w2 q NB MB V from ⟨B6 lp lf lo li lb,[nb],[nm],[.slice none 0 0],rfl,Yh htr (AB HB01).size,(AB HB01).trans (hb2.mono (AB HB01).size),Ve lp lf lo li lb,⟨by show (1:Int)<=li;omega,by show (0:Int)<=lb;have:=(AB HLIM).2.2.2.2.2.2.2.2.1;omega⟩⟩)
 clear htr hb2 hb2w hli k3' k4' HNEW
 go_wp2
 go_loopw [32] (fun i wr=>∃j:Nat,j<=FZ.length/\i= .int .i64 j/\Hid (∃q NB MB V,Ty lp lf lo li lb FZ W0 tb ab am j wr q NB MB V)) (fun i _=>FZ.length-(intOf i).toNat)
 case atStart=>exact ⟨0,by omega,rfl,HR0⟩
 case round=>
  obtain ⟨j,hj,rfl,HR⟩:=hrel
  obtain ⟨q,NB,MB,V,hkl⟩:=AB HR
  have HKL:=AC hkl
  have hsz:=hkl.size
  have hbw0:=hkl.below
  have hws0:=hbw0.size
  have hs00:=(AB HB0).size
  have hbw:=(AB HB0).trans (hbw0.mono hs00)
  have hws:=hbw.size
  have hsl:=Tz FZ j
  have hgl:=AB HGL
  have hlm:=AB HLIM
  have hqb:0<=q.lb/\q.lb<=1000000:=by rw [hsz.lims.2.2.2.2];have:=hlm.2.2.2.2.2.2.2.2;omega
  have hqu:AU q.cs<=200000:=by have:=hsz.used;omega
  have hql:q.xs.length<=101:=by have:=hsz.len;omega
  have hqi:(q.xs.length:Int)<=q.li/\q.li<=1000000:=⟨hkl.fit.1,by rw [hsz.lims.2.2.2.1];have:=hlm.2.2.2.2.2.2.2.1;omega⟩
  have hqf:(AU q.cs:Int)<=q.lb:=hkl.fit.2
  have hmw:∀w',Below w.heap.size w w'->w'.cell? (pK 3 0)=some (.int .i64 mm):=fun w' h=>by rw [h.cell (p:=(pK 3 0)) hgl.2.1];exact AB HMM
  by_cases hlt:j<FZ.length
  ·obtain ⟨f,hfj⟩:∃f,FZ[j]? =some f:=⟨_,zz hlt⟩
   obtain ⟨l,hlj⟩:∃l,LS[j]? =some l:=⟨_,zz (by rw [AB HLEN];exact hlt)⟩
   obtain rfl:=AB HVA (by omega)
   obtain ⟨x0,x1,x2,x3,x4⟩:=AB HFB wr hbw j f l hfj hlj
   have hj0:(0:Int)<=(j:Int):=by omega
   have hj1:(j:Int)<(FZ.length:Int):=by omega
   have hfp:=AB HPS f (zv hfj)
   have hsc:=OI hfj
   have hsl1:=Tz FZ (j+1)
   obtain ⟨W3,hW3⟩:∃W3,W3=wr.alloc (Obj.cells #[.string f.path,.bool f.dir,.slice l.a f.bytes.length l.c] 46):=⟨_,rfl⟩
   have hb3:Below wr.heap.size wr W3:=by rw [hW3];exact (zw _ _).alloc (zx _) _
   have hb3w:=hbw.trans (hb3.mono hws)
   have hb30:=hbw0.trans (hb3.mono hws0)
   have HMK:=AC (Ql q W0.heap.size tb ab am l.q l.o l.c l.a NB MB V f mm W3 (hkl.rep.below hb3) hkl.inv (by omega) (by omega) hqb hqi hqf hfp.1 (by omega) (fun h=>⟨(x3 h).1,by have:=(x3 h).2;omega⟩) (AB HFB W3 hb3w j f l hfj hlj).2.2.2.2 hb30.size (hmw W3 hb3w) (by omega))
   have HW3:=AC hW3
   have HB3:=AC hb3w
   have HB30:=AC hb30
   have HFJ:=AC (And.intro hfj hfp)
   clear hsz hbw hws hbw0 hws0 hs00 hsl hgl hlm hqb hqu hql hqi hqf hmw hkl hfj hlj x3 x4 hfp hsc hsl1 hW3 hb3 hb3w hb30
   go_wp2_with fail
   rw [<-AB HW3]
   refine (AB HMK).mono ?_
   rintro e w4 ⟨hb4,(⟨hne,rfl⟩|⟨hok,rfl,NB',MB',V',hrep⟩)⟩
   ·have HP:=AC (show GC lp lf lo li lb FZ w (LO (q.put f).1) w4 from ⟨(AB HB3).trans (hb4.mono (AB HB0).size),.inl ⟨_,.inr ⟨AB HLIM,.inr ⟨by have:=AB HLI;omega,.inl (by rw [K4 (AB HKL).puts (AB HFJ).1 hne];exact ⟨hne,rfl⟩)⟩⟩,rfl⟩⟩)
    unfold Br
    clear hb4 hne x0 x1 x2 HMK
    go_wp2
    go_ret2
    exact AB HP
   ·have HR':=AC (show ∃q NB MB V,Ty lp lf lo li lb FZ W0 tb ab am (j+1) w4 q NB MB V from ⟨(q.put f).2,NB',MB',V',K3 (AB HKL).puts (AB HFJ).1 hok,hrep,(AB HB30).trans hb4,by rw [OI (AB HFJ).1];exact (AB HKL).size.put f (AB HFJ).2.2,(AB HKL).fit.put f hok⟩)
    clear hb4 hok hrep x0 x1 x2 HMK
    go_wp2
    exact ⟨⟨j+1,by omega,by simp,HR'⟩,by simp only [intOf];omega⟩
  ·have hje:j=FZ.length:=by omega
   subst hje
   have hput:=hkl.puts
   rw [List.take_length] at hput
   have hq:((B6 lp lf lo li lb).puts FZ).2=q:=by rw [hput]
   have hq1:((B6 lp lf lo li lb).puts FZ).1=0:=by rw [hput]
   obtain ⟨W5,hW5⟩:∃W5,W5=wr.alloc (Obj.cells #[.slice none 0 0,.slice none 0 0] 103):=⟨_,rfl⟩
   have hb5:Below wr.heap.size wr W5:=by rw [hW5];exact (zw _ _).alloc (zx _) _
   have hc5:AG W5 wr.heap.size 103 Vb:=by rw [hW5];exact AG.new wr 103 _
   have hs5:W5.heap.size=wr.heap.size+1:=by rw [hW5];simp
   have HNP:=AC (Mp 1 0 wr.heap.size W5)
   have HW5:=AC hW5
   have HB5:=AC hb5
   have HC5:=AC hc5
   have HQ:=AC (And.intro hq hq1)
   have HSZ:=AC (And.intro hsz (And.intro hqu (And.intro hql (And.intro hws hs5))))
   have HMW:=AC hmw
   have HBW:=AC (And.intro hbw (And.intro hbw0 (And.intro hws0 hs00)))
   clear hsz hbw hws hbw0 hws0 hs00 hsl hgl hlm hqb hqu hql hqi hqf hmw hkl hput hq hq1 hW5 hb5 hc5 hs5 hlt hj
   go_upto_region 14 with fail
   rw [<-AB HW5]
   go_wp2_with fail
   refine (AB HNP).mono ?_
   rintro e w6 ⟨rfl,hb6,hp6⟩
   obtain ⟨W7,hup,hone,hg7⟩:=dh w6 W5.heap.size
   have hs6:W5.heap.size<w6.heap.size:=hp6.lt
   have hb56:=(AB HB5).trans (hb6.mono (AB HB5).size)
   obtain ⟨hbw,hbw0,hws0,hs00⟩:=AB HBW
   obtain ⟨hsz,hqu,hql,hws,hs5⟩:=AB HSZ
   have hb60:=hbw0.trans (hb56.mono hws0)
   have hb6w:=hbw.trans (hb56.mono hws)
   have hn6:=(AB HN0).below hb60 (AB HN0).lt
   have k0:w6.cell? (pK w.heap.size 0)=some (.int .i64 lp):=hn6.cell rfl
   have k1:w6.cell? (pK w.heap.size 1)=some (.int .i64 lf):=hn6.cell rfl
   have k2:w6.cell? (pK w.heap.size 2)=some (.int .i64 lo):=hn6.cell rfl
   have k3:w6.cell? (pK w.heap.size 3)=some (.int .i64 li):=hn6.cell rfl
   have k4:w6.cell? (pK w.heap.size 4)=some (.int .i64 lb):=hn6.cell rfl
   have hmk:= @run_makeMap Tryz.prog
   have hb7:Below w6.heap.size w6 W7:=((zw w6.heap.size w6).alloc (zx _) (.map #[] 0)).trans (Ag hg7 (zx _) (by simp))
   have hs7:w6.heap.size<W7.heap.size:=by have:=hg7.size;simp at this;omega
   obtain ⟨pm,hpm⟩:∃pm,pm=w6.heap.size:=⟨_,rfl⟩
   obtain ⟨pb,hpb⟩:∃pb,pb=W5.heap.size:=⟨_,rfl⟩
   obtain ⟨cb,hcb⟩:∃cb,cb=wr.heap.size:=⟨_,rfl⟩
   obtain ⟨W8,hW8⟩:∃W8,W8=W7.alloc (Obj.cells #[.int .i64 lp,.int .i64 lf,.int .i64 lo,.int .i64 li,.int .i64 lb,pq tb 0,pq cb 0,.int .i64 0,.slice none 0 0,.map (some pm)] 112):=⟨_,rfl⟩
   obtain ⟨W9,hW9⟩:∃W9,W9=W8.alloc (Obj.cells #[.string BI] 9):=⟨_,rfl⟩
   have hb8:Below W7.heap.size W7 W8:=by rw [hW8];exact (zw _ _).alloc (zx _) _
   have hb9:Below W8.heap.size W8 W9:=by rw [hW9];exact (zw _ _).alloc (zx _) _
   have hk8:AG W8 W7.heap.size 112 (EQ lp lf lo li lb tb cb pm):=by rw [hW8];exact AG.new W7 112 _
   have ha9:AG W9 W8.heap.size 9 [.string BI]:=by rw [hW9];exact AG.new W8 9 _
   have hb79:Below W7.heap.size W7 W9:=hb8.trans (hb9.mono hb8.size)
   have hb69:Below w6.heap.size w6 W9:=hb7.trans (hb79.mono hb7.size)
   have hbr9:Below wr.heap.size wr W9:=hb56.trans (hb69.mono (by omega))
   have hbw9:Below w.heap.size w W9:=hbw.trans (hbr9.mono hws)
   have hk9:=hk8.below hb9 hk8.lt
   have hp9:=hp6.below hb69 hp6.lt
   have hc9:=(AB HC5).below (hb6.trans (hb69.mono (by omega))) (AB HC5).lt
   have ho9:A6 W9 w6.heap.size W5.heap.size:=hone.kept (A7 hb79) (by simp)
   rw [<-hpm,<-hpb] at ho9
   rw [<-hpb,<-hcb] at hp9
   rw [<-hcb] at hc9
   obtain ⟨kb,hkb⟩:∃kb,kb=W7.heap.size:=⟨_,rfl⟩
   rw [<-hkb] at hk9
   obtain ⟨l1,l2,l3,l4,l5⟩:=hsz.lims
   have hgl:=AB HGL
   have hlm:=AB HLIM
   have hq9:=(AB HKL).rep.below hbr9
   have HEX:=AC (Tm q W0.heap.size tb ab am kb pm pb cb W8.heap.size 0 1 (some (pK W8.heap.size 0)) 1 0 mm (DW cb 3) NB MB V At [BI] W9 hq9 (AB HKL).inv hsz.bytes (by omega) (by omega) ⟨by rw [l4];exact hlm.2.2.2.2.2.2.1,by rw [l4];have:=hlm.2.2.2.2.2.2.2.1;omega⟩ ⟨(AB HKL).fit.2,by rw [l5];have:=hlm.2.2.2.2.2.2.2.2.2;omega⟩ (by rw [l2];have:=hlm.2.2;omega) (by rw [l1,l2,l3,l4,l5];exact hk9) ho9 hp9 (by
     intro v hv
     rw [aA] at hv
     simp only [List.mem_cons,List.not_mem_nil,or_false] at hv
     rcases hv with rfl|rfl|rfl|rfl|rfl|rfl|rfl|rfl<;>rfl) (by decide) (fun _=>rfl) ha9.lt (fun i hi=>by
     have hi0:i=0:=by simp at hi;omega
     subst hi0
     exact ha9.cell rfl) (by decide) (fun j v hj=>by rw [hbw9.cell (p:=(pK 1 (0+j))) hgl.1];exact AB HT j v hj) (by have:=hbw9.size;omega) (AB HMW W9 hbw9) (by have:=hbw9.size;omega))
   have hsz9:=hb69.size
   have HFIN:=AC (show wr.heap.size=cb/\cb<pb/\pb<pm/\pm<kb/\kb<W9.heap.size/\w.heap.size<=cb/\w.heap.size<=W0.heap.size from ⟨hcb.symm,by omega,by omega,by omega,by rw [hkb];have:=hk8.lt;have:=hb9.size;omega,by omega,hs00⟩)
   have HST:=AC (And.intro hbr9 (And.intro hbw9 (And.intro hk9 (And.intro ho9 hc9))))
   have HW8:=AC hW8
   have hW9':=hW9
   unfold BI at hW9'
   have HW9:=AC hW9'
   have HUP:=AC hup
   have HID:=AC (And.intro hpm (And.intro hpb (And.intro hcb hkb)))
   clear hs6 hb56 hbw hbw0 hws0 hs00 hsz hqu hql hws hs5 hb60 hb6w hn6 hb7 hs7 hW8 hW9 hW9' hb8 hb9 hk8 ha9 hb79 hb69 hbr9 hbw9 hk9 hp9 hc9 ho9 l1 l2 l3 l4 l5 hgl hlm hq9 hsz9 hb6 hp6 hone hg7 HNP hpm hpb hcb hkb
   have hup':=AB HUP
   rw [<-(AB HID).2.1] at hup' ⊢
   rw [<-(AB HID).2.2.1]
   clear hup
   go_upto_region 16 with fail
   rw [<-(AB HID).1]
   rw [<-AB HW8]
   rw [<-(AB HID).2.2.2]
   clear hup' hmk k0 k1 k2 k3 k4
   go_wp2_with fail
   rw [<-AB HW9]
   refine (AB HEX).mono ?_
   intro e w10 hx
   obtain ⟨hbr9,hbw9,hk9,ho9,hc9⟩:=AB HST
   obtain ⟨i1,i2,i3,i4,i5,i6,i7⟩:=AB HFIN
   rcases hx with ⟨c,hc,rfl,hb10⟩|⟨hok,rfl,hfr,hp10⟩
   ·have HP:=AC (show GC lp lf lo li lb FZ w (LO c) w10 from ⟨hbw9.trans (hb10.mono hbw9.size),.inl ⟨c,.inr ⟨AB HLIM,.inr ⟨by have:=AB HLI;omega,.inr ⟨(AB HQ).2,by rw [(AB HQ).1];exact hc⟩⟩⟩,rfl⟩⟩)
    unfold Br
    clear hc hb10 hbr9 hbw9 hk9 ho9 hc9 i1 i2 i3 i4 i5 i6 i7 HEX
    go_wp2
    go_ret2
    exact AB HP
   ·have HP:=AC (show GC lp lf lo li lb FZ w (.returned (.tuple #[pq kb 0,.nilIface])) w10 from by
     have hbw10:Below w.heap.size W9 w10:=hfr.below (fun k hk=>by simp at hk;omega) hbw9.size
     have hbr10:Below wr.heap.size wr w10:=hbr9.trans (hfr.below (fun k hk=>by simp at hk;omega) hbr9.size)
     obtain ⟨hsz,hqu,hql,_,_⟩:=AB HSZ
     obtain ⟨l1,l2,l3,l4,l5⟩:=hsz.lims
     have hkeep:∀k,k<W9.heap.size->k≠pb->w10.heap[k]? =W9.heap[k]? :=fun k hk hne=>hfr.block k hk (by simpa using hne)
     refine ⟨hbw9.trans hbw10,.inr ⟨⟨AB HLIM,by have:=AB HLI;omega,(AB HQ).2,by rw [(AB HQ).1];exact hok⟩,kb,tb,ab,am,cb,pm,pb,NB,MB,V,rfl,?_⟩⟩
     rw [(AB HQ).1]
     have hrep:=(AB HKL).rep.below hbr10
     refine ⟨⟨hrep.tree.base i7,fun i v c hv hc=> ?_,hrep.own⟩,?_,ho9.block (hkeep _ (by omega) (by omega)),Ab hc9 (hkeep _ (by omega) (by omega)),hp10,⟨by omega,by omega,by omega,by omega⟩,(AB HKL).inv,⟨by omega,by omega,hsz.bytes⟩⟩
     ·rcases hrep.cont i v c hv hc with z|⟨R,cp,T,z1,z2,z3,z4,z5⟩
      ·exact .inl z
      ·exact .inr ⟨R,cp,T,z1,z2,z3,z4,by omega⟩
     ·rw [l1,l2,l3,l4,l5]
      exact Ab hk9 (hkeep _ (by omega) (by omega)))
    clear hok hfr hp10 hbr9 hbw9 hk9 ho9 hc9 i1 i2 i3 i4 i5 i6 i7 HEX
    go_wp2
    go_ret2
    exact AB HP
theorem bm (lp lf lo li lb mm:Int) (va:Option Addr) (vb vcap:Nat) (FZ:List AV) (LS:List BN) (w:World) (hn:FZ.length<=100) (hsum:(FZ.map (fun f=>f.bytes.length)).sum<=200000) (hps:∀f∈FZ,f.path.size<=maxLen/\AY f.bytes) (hva:0<FZ.length->va=some (pK vb 0)/\vb<w.heap.size) (hf:Cz w vb 0 FZ LS)
  (ht:w.rangeAt 1 0 EU) (hgw:1<w.heap.size) (hmm:w.cell? (pK 3 0)=some (.int .i64 mm)) (hml:3<w.heap.size):
  Calls Tryz.prog 6 #[.agg #[.int .i64 lp,.int .i64 lf,.int .i64 lo,.int .i64 li,.int .i64 lb],.slice va FZ.length vcap] w (GL lp lf lo li lb FZ KR w):=by
 obtain ⟨W0,hW0⟩:∃W0,W0=w.alloc (Obj.cells #[.int .i64 lp,.int .i64 lf,.int .i64 lo,.int .i64 li,.int .i64 lb] 23):=⟨_,rfl⟩
 have hb0:Below w.heap.size w W0:=by rw [hW0];exact (zw _ _).alloc (zx _) _
 have hs0:=hb0.size
 have HB:=AC (Yq lp lf lo li lb mm va vb vcap FZ LS W0 hn hsum hps (fun h=>⟨(hva h).1,by have:=(hva h).2;omega⟩) ⟨hf.len,fun i f l hi hl=>by
  obtain ⟨x0,x1,x2,x3,x4⟩:=hf.at_ i f l hi hl
  have h0:0<FZ.length:=by have:=(zy.1 hi).1;omega
  have hfb:=(hva h0).2
  refine ⟨by rw [hb0.cell (p:=(pK vb (0+i*3))) hfb];exact x0,by rw [hb0.cell (p:=(pK vb (0+i*3+1))) hfb];exact x1,by rw [hb0.cell (p:=(pK vb (0+i*3+2))) hfb];exact x2,fun q=>⟨(x3 q).1,by have:=(x3 q).2;omega⟩,fun j hj=> ?_⟩
  rw [hb0.cell (p:=(pK l.q (l.o+j))) (x3 (by omega)).2]
  exact x4 j hj⟩ (fun j v hv=>by rw [hb0.cell (p:=(pK 1 (0+j))) hgw];exact ht j v hv) (by omega) (by rw [hb0.cell (p:=(pK 3 0)) hml];exact hmm) (by omega))
 have hn0:AG W0 w.heap.size 23 [.int .i64 lp,.int .i64 lf,.int .i64 lo,.int .i64 li,.int .i64 lb]:=by rw [hW0];exact AG.new w 23 _
 have k0:W0.cell? (pK w.heap.size 0)=some (.int .i64 lp):=hn0.cell rfl
 have k1:W0.cell? (pK w.heap.size 1)=some (.int .i64 lf):=hn0.cell rfl
 have k2:W0.cell? (pK w.heap.size 2)=some (.int .i64 lo):=hn0.cell rfl
 have k3:W0.cell? (pK w.heap.size 3)=some (.int .i64 li):=hn0.cell rfl
 have k4:W0.cell? (pK w.heap.size 4)=some (.int .i64 lb):=hn0.cell rfl
 have HW0:=AC hW0
 have HB0:=AC hb0
 clear hps hva hf ht hmm hgw hml hW0 hb0 hn0 hsum hs0
 go_enter Tryz.func6,Tryz.ntmps6
 go_upto_region 1 with fail
 rw [<-AB HW0]
 go_wp2_with fail
 refine (AB HB).mono ?_
 rintro e w1 ⟨hb1,(⟨c,hc,rfl⟩|⟨hg,kb,tb,ab,am,cb,pm,pb,NB,MB,V,rfl,hrep⟩)⟩
 ·have HP:=AC (show GL lp lf lo li lb FZ KR w (.returned (.tuple #[.pointer none,.iface 47 (.int .i64 c)])) w1 from ⟨(AB HB0).trans (hb1.mono (AB HB0).size),.inl ⟨c,hc,rfl⟩⟩)
  unfold LO
  clear hc hb1 k0 k1 k2 k3 k4 HB
  go_wp2
  go_ret2
  exact AB HP
 ·have HP:=AC (show GL lp lf lo li lb FZ KR w (.returned (.tuple #[pq w1.heap.size 0,.nilIface])) (w1.alloc (Obj.cells #[pq kb 0] 62)) from by
   have hs0:=(AB HB0).size
   have hb1w:=(AB HB0).trans (hb1.mono hs0)
   have hb2:Below w1.heap.size w1 (w1.alloc (Obj.cells #[pq kb 0] 62)):=(zw _ _).alloc (zx _) _
   refine ⟨hb1w.trans (hb2.mono hb1w.size),.inr ⟨hg,(pK w1.heap.size 0),rfl,w1.heap.size,kb,tb,ab,am,cb,pm,pb,NB,MB,V,rfl,hb1w.size,AG.new w1 62 _,?_⟩⟩
   have h2:=hrep.stable hb2.size (fun k _ hk=>hb2.block k hk)
   have hl:=h2.low
   refine ⟨⟨h2.tree.tree.base hs0,fun i v c hv hc=> ?_,h2.tree.own⟩,h2.ker,h2.procs,h2.con,h2.proc,⟨by omega,by omega,by omega,by omega⟩,h2.inv,h2.size⟩
   rcases h2.tree.cont i v c hv hc with z|⟨R,cp,T,z1,z2,z3,z4,z5⟩
   ·exact .inl z
   ·exact .inr ⟨R,cp,T,z1,z2,z3,z4,by omega⟩)
  clear hg hrep hb1 k0 k1 k2 k3 k4 HB
  go_wp2
  go_ret2
  exact AB HP
theorem CS.heap {w w0:World} {FL:List AV} {e:Ending} {w':World} (h:CS w0 FL e w') (hb:Below w.heap.size w w0):CS w FL e w':=by
 obtain ⟨aa,ag,ac,LS,h1,h2,h3,h4⟩:=h
 refine ⟨aa,ag,ac,LS,h1,h2,hb.trans (h3.mono hb.size),h4.len,fun i f l hi hf hl=> ?_,h4.apart⟩
 obtain ⟨c1,c2,c3,c4,c5,c6⟩:=h4.at_ i f l hi hf hl
 exact ⟨c1,c2,c3,fun q=>⟨(c4 q).1,by have:=(c4 q).2.1;have:=hb.size;omega,(c4 q).2.2.1,(c4 q).2.2.2⟩,c5,c6⟩
theorem CS.val {w:World} {FL:List AV} {e:Ending} {w':World} (h:CS w FL e w'):∃a n c,e= .returned (.slice a n c):=by
 obtain ⟨aa,ag,ac,LS,h1,_⟩:=h
 exact ⟨_,_,_,h1⟩
theorem PE (p:PK) (hi:Bo p) (B tb ab am:Nat) (NB MB:List Nat) (V:List Value) (hxl:p.xs.length<=100000) (hcl:∀c∈p.cs,c.length<=1000000) (w:World) (hr:BY w B tb ab am p NB MB V):
  Calls Tryz.prog 162 #[pq tb 0] w (CS w (FL0 p)):=by
 haveI hinh:Inhabited BN:=⟨⟨none,0,0,0⟩⟩
 have hne:p.xs≠[]:=by obtain ⟨x,hx,_⟩:=hi.root;intro e;rw [e] at hx;cases hx
 obtain ⟨x0,h0,h01,h0d⟩:=hr.tree.root hne
 have h0l:=(zy.1 h0).1
 obtain ⟨b0,hb0⟩:∃b0,NB[0]? =some b0:=⟨_,zz (by rw [hr.tree.len.1];exact h0l)⟩
 have c0:w.cell? (pK tb 0)=some (pq ab 0):=hr.tree.tree.cell rfl
 have c2:w.cell? (pK ab 3)=some (.map (some am)):=hr.tree.above.cell rfl
 have hlk:(Instr.lookup 256 (.map (some am)) (.string ⟨#[]⟩) false).run Tryz.prog w= .ok (pq b0 0) w:=by
  have h:=hr.tree.amap.look ByteArray.empty (by unfold maxLen;decide)
  have e:CG (if ByteArray.empty.data.toList=[] then NB[0]? else none)= pq b0 0:=by rw [if_pos (show ByteArray.empty.data.toList=[] from rfl),hb0];rfl
  rw [e] at h
  exact h
 have HLS:=AC (OE p hi B tb ab am NB MB V hxl hcl p.xs.length 0 x0 b0 w hr h0 hb0 (by omega))
 rw [Lm (show x0.id<=1 by omega)] at HLS
 have HI:=AC (And.intro hi (And.intro h0 h01))
 clear hr hi hb0 hcl hne h0 h01 h0d
 go_enter Tryz.func162,Tryz.ntmps162
 go_wp2_with fail
 refine (AB HLS).mono ?_
 rintro e w1 ⟨v1,EL,rfl,hrep,hnd,hmem,hb1⟩
 obtain ⟨hi,h0,h01⟩:=AB HI
 clear c0 c2 hlk HLS
 by_cases hE:EL=[]
 ·subst hE
  obtain rfl:=hrep.nil rfl
  have hFL:FL0 p=[]:=by
   have hl:(IL0 p)=[]:=by
    apply List.eq_nil_iff_forall_not_mem.2
    intro j hj
    have:=(hmem j).2 ((Tx hi h0 h01 j).2 (IJ.1 hj))
    simp at this
   unfold FL0
   rw [hl];rfl
  have HSN:=AC (show Calls Tryz.prog 204 #[.slice none 0 0,.func (.func 205) #[] #[]] w1 fun e w'=>e= .returned (.tuple #[])/\w'=w1 from AnyF.slices_SortFunc_none {Pr with} none 0 _ w1)
  have HP:=AC (show CS w (FL0 p) (.returned (.slice none 0 0)) w1 from by
   rw [hFL]
   exact ⟨none,0,0,[],rfl,fun h=>absurd h (by decide),hb1,rfl,fun i f l _ hf _=>by simp at hf,fun i j f l m hf _ _ _ _=>by simp at hf⟩)
  clear hrep hnd hmem hb1 hi h0 h01 hFL HI
  go_wp2_with fail
  refine (AB HSN).mono ?_
  rintro e w2 ⟨rfl,hw2⟩
  subst hw2
  clear HSN
  go_wp2
  go_ret
  exact AB HP
 ·obtain ⟨g,c,rfl,hg,hgl⟩:=hrep.row.form (List.length_pos_iff.2 hE)
  have hEl:EL.length<=100000:=by
   have:=JR (EL.map Prod.fst) (List.range p.xs.length) hnd (fun k hk=>by rw [zg];exact ((hmem k).1 hk).bound)
   simp at this
   omega
  have HSF:=AC (PD p w.heap.size g c EL w1 hrep.row hEl)
  have HREP:=AC (And.intro hrep (And.intro hnd (And.intro hmem hb1)))
  obtain ⟨n,hn⟩:∃n,n=EL.length:=⟨_,rfl⟩
  rw [<-hn] at HSF ⊢
  have HN:=AC hn
  clear hrep hnd hmem hb1 hi h0 h01 hg hgl hEl hE hn
  go_wp2_with fail
  refine (AB HSF).mono ?_
  rintro e w2 ⟨rfl,EL',hperm,hs,hH,hgr⟩
  have HP:=AC (show CS w (FL0 p) (.returned (.slice (some (pK g 0)) n c)) w2 from by
   rw [AB HN]
   exact Vq (AB HI).1 (AB HI).2.1 (AB HI).2.2 (AB HREP).1 (AB HREP).2.1 (AB HREP).2.2.1 (AB HREP).2.2.2 hperm hs hH hgr)
  clear hperm hs hH hgr HSF HREP HI
  go_wp2
  go_ret
  exact AB HP
theorem Vr (kb tb:Nat) (FL:List AV) (w:World) (hk:w.cell? (pK kb 5)=some (pq tb 0)) (h:Calls Tryz.prog 162 #[pq tb 0] w (CS w FL)):
  Calls Tryz.prog 114 #[pq kb 0] w (CS w FL):=by
 have HT:=AC h
 clear h
 go_enter Tryz.func114,Tryz.ntmps114
 go_wp2_with fail
 refine (AB HT).mono ?_
 intro e w1 h1
 obtain ⟨a,n,c,he⟩:=h1.val
 subst he
 have HP:=AC h1
 clear h1 hk HT
 go_wp2
 go_ret
 exact AB HP
theorem Yr (tk kb tb:Nat) (FL:List AV) (w:World) (ht:w.cell? (pK tk 0)=some (pq kb 0)) (hk:w.cell? (pK kb 5)=some (pq tb 0)) (h:Calls Tryz.prog 162 #[pq tb 0] w (CS w FL)):
  Calls Tryz.prog 59 #[pq tk 0] w (CS w FL):=by
 have HT:=AC (Vr kb tb FL w hk h)
 clear h hk
 go_enter Tryz.func59,Tryz.ntmps59
 go_wp2_with fail
 refine (AB HT).mono ?_
 intro e w1 h1
 obtain ⟨a,n,c,he⟩:=h1.val
 subst he
 have HP:=AC h1
 clear h1 ht HT
 go_wp2
 go_ret
 exact AB HP
theorem Ys {cs:List (List Int)} {c:List Int} (h:c∈cs):c.length<=AU cs:=by
 obtain ⟨i,hi⟩:=yo.1 h
 exact JG hi
end
end Go.Proofs.YtdchgbmliojoiaaGreatDoor
