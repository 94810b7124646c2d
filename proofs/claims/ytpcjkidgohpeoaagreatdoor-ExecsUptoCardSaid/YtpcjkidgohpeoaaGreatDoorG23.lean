import Derived.Test.YtpcjkidgohpeoaaGreatDoorG21
set_option maxRecDepth 100000
set_option maxHeartbeats 8000000
set_option linter.all false
namespace Go.Proofs.YtpcjkidgohpeoaaGreatDoor
open RowKit Maps Proofs.Tryz
variable {PL:List (Int×Nat)} {x:Int×Nat} {k E pid par st su wk:Int} {b pm n:Nat} {w:World} {xs:List Ino} {B R:List Int} {S fds:List Value} (p:PK)
section
open Go.Sort Shelf
def iq (m:Nat):AnyZI.SortsIn prog Oc Fence.wide m:=
 ⟨λblk off C ss W hH D F=>callsIn_wide.2 (AnyM.slices_Sort_int WS blk off C ss W hH D F),
  λp C W=>callsIn_wide.2 (AnyM.slices_Sort_int_none WS p C W)⟩
def eK (pm:Nat) (w:World):cT 199 #[.map (some pm)] w λe w'=>e= .returned (.func (.func 277) #[] #[qP w.heap.size 0])/\w'=w.alloc (.cells #[.map (some pm)] 104):=
 callsIn_wide.1 (AnyZI.keys_in nG Fence.wide 5 trivial rfl (some pm) w)
def We {H:Type} (b nn:Nat) (D0:DataW H) (R:Value->Option (DataW H×List MemPlace)) (w:World) (D:w.ownsMap prog 3 R b nn D0) (I:Maps.size D0<=maxLen) (C:Maps.size D0*8<=140737488355328):
  cT 198 #[.func (.func 277) #[] #[qP w.heap.size 0]] (w.alloc (.cells #[.map (some b)] 104)) λe w'=>∃(v:Value) (ss:List Int),e= .returned v/\ss.Perm (intKeys D0)/\
   w'.ownsRow w.heap.size 3 1 v ss.length ((ss.mergeSort (λx y=>decide (x<=y))).map encZ)/\Bw w w':=by
 have L:=D.lt
 have G:SeqGives Fence.wide 2 prog 277 #[qP w.heap.size 0] encZ (λss=>ss.Perm (intKeys D0)) (Maps.size D0) (w.alloc (.cells #[.map (some b)] 104)):=
  AnyZI.keys_gives (ρ:=TN) {nG with} Fence.wide _ trivial rfl om w.heap.size b nn D0 _ sI sI (by
   obtain ⟨es,F,hb,Ft,hs,hD⟩:=D
   exact ⟨es,F,(Below.heap_alloc _ _ b L).trans hb,Ft,hs,hD⟩)
 have cS:=AnyZI.sorted_in ll Fence.wide 5 trivial trivial trivial trivial rfl om (iq _) (enters_of func276 kf rfl) 277 #[qP w.heap.size 0] trivial (enters_of func277 kf rfl) _ _ I C _ G;refine (callsIn_wide.1 cS).mono ?_;rintro e w' ⟨v,ss,rfl,hS,J,_,hb⟩;exact ⟨v,ss,rfl,hS,ownsRow_base_a J sI,((zw _ w).alloc (zx _) _).trans (hb.mono sI)⟩
def ir (w:World):(zeroValue 102).run prog w= .ok (.pointer none) w:=kf
def J8:(prog.info? 102).map (λi=>(i.zero,i.size,i.bytes))=some (some (.pointer none),1,8):=kf
end
section
open Go.Sort Shelf
def Bg (PL:List (Int×Nat)) (k:Int):Option Nat:=(PL.find? (λx=>x.1==k)).map (·.2)
def AZ (w:World) (pm n:Nat) (PL:List (Int×Nat)):Prop:=
 PL.length<=n/\PL.Pairwise (λa b=>a.1<b.1)/\(∀x∈PL, -1000000<=x.1/\x.1<=1000000)/\
 ∃D:DataW Unit,w.ownsMap prog 3 Bp pm n D/\(∀k:Int,D.atKey (.int .i64 k) .nil=DT (Bg PL k))/\∀kl,Maps.has D kl=true->∃x∈PL,kl= .int .i64 x.1
def DJ (hs:PL.Pairwise (λa b=>a.1<b.1)) (hx:x∈PL):Bg PL x.1=some x.2:=by
 unfold Bg
 cases hf:PL.find? (λy=>y.1==x.1) with
 |none=>
  have:=xm.1 hf x hx
  simp at this
 |some y=>
  have hy:=yk hf;have he:y.1=x.1:=sU (qz hf)
  have:y=x:=by
   obtain ⟨i,hi,rfl⟩:=sk.1 hy;obtain ⟨j,hj,rfl⟩:=sk.1 hx;have hp:=vd.1 hs;rcases rf i j with q|q|q
   ·have:=hp i j hi hj q;omega
   ·subst q;rfl
   ·have:=hp j i hj hi q;omega
  rw [this];rfl
def Qu (h:∀x∈PL,x.1≠k):Bg PL k=none:=by
 unfold Bg;rw [xm.2 (λx hx=>by simpa using h x hx)];rfl
def Ln (h:Bg PL k=some b):(k,b)∈PL:=by
 unfold Bg at h;obtain ⟨y,hy,rfl⟩:=up.1 h;have he:y.1=k:=sU (qz hy);rw [<-he];exact yk hy
def AZ.kept {w':World} (h:AZ w pm n PL) {row:Option Nat} (hg:w.grownBy w' row) (C:some pm≠row):AZ w' pm n PL:=by
 obtain ⟨h1,h2,h3,D,hD,h4⟩:=h;exact ⟨h1,h2,h3,D,hD.kept hg C,h4⟩
def AZ.lt (h:AZ w pm n PL):pm<w.heap.size:=by obtain ⟨_,_,_,D,hD,_⟩:=h;exact hD.lt
def ZL (hk: -9223372036854775808<=k/\k<=9223372036854775807):(Lit.int .i64 k).wf=true:=by
 have h1:IntKind.min .i64= -9223372036854775808:=dz;have h2:IntKind.max .i64=9223372036854775807:=dz;show (decide (IntKind.min .i64<=k)&&decide (k<=IntKind.max .i64))=true;rw [h1,h2,ve hk.1,ve hk.2];rfl
def AZ.look (h:AZ w pm n PL) (k:Int) (hk: -9223372036854775808<=k/\k<=9223372036854775807):(Instr.lookup 104 (.map (some pm)) (.int .i64 k) false).run prog w= .ok (BF (Bg PL k)) w:=by
 obtain ⟨_,_,_,D,hD,h4,_⟩:=h;obtain ⟨v,ps,C,hv⟩:=hD.lookup EP underlying104 (ir w) (show Bp (.pointer none)=some (.nil,[]) from rfl) (Go.Maps.keyOf_int_mk underlying3 (a:=k) (ZL hk));rw [h4 k] at hv;rw [OU hv] at C;exact C
def AZ.keys (h:AZ w pm n PL):∃D:DataW Unit,w.ownsMap prog 3 Bp pm n D/\(PL.map (·.1)).Perm (intKeys D)/\Maps.size D=PL.length:=by
 obtain ⟨_,hs,_,D,hD,h4,h5⟩:=h;obtain ⟨es,rfl,C,F⟩:=hD.entries EP
 have G:(PL.map (·.1)).Nodup:=by
  rw [List.Nodup,List.pairwise_map];exact hs.imp (λ{a b} hab e=>om)
 have hp:(PL.map (·.1)).Perm (intKeys (.map es)):=by
  refine perm_intKeys C (λp hp=> ?_) G (λx=> ?_)
  ·obtain ⟨y,_,hy⟩:=h5 p.1 (by rw [Maps.has_eq,List.any_eq_true];exact ⟨p,hp,iw (F p hp)⟩);exact ⟨y.1,hy⟩
  ·constructor
   ·intro hx;obtain ⟨y,hy,rfl⟩:=yt.1 hx
    cases hh:Maps.has (DataW.map es) (.int .i64 y.1) with
    |true=>rfl
    |false=>
     have:=h4 y.1;rw [Maps.atKey_of_not_has hh,DJ hs hy] at this;cases this
   ·intro hx;obtain ⟨y,hy,e⟩:=h5 _ hx;injection e with _ e;rw [e];exact yt.2 ⟨y,hy,rfl⟩
 refine ⟨.map es,hD,hp,?_⟩;have:=hp.length_eq;rw [zc] at this;rw [this];show es.length=(es.map _).length;rw [zc]
def AZ.len (h:AZ w pm n PL) (ty:TypeId):(Builtin.len_ #[104] ty #[.map (some pm)]).run prog w= .ok (.int .i64 PL.length) w:=by
 obtain ⟨D,hD,_,hs⟩:=h.keys;rw [<-hs];exact hD.len underlying104 ty
def Wh (hs:PL.Pairwise (λa b=>a.1<b.1)) {ss:List Int} (hp:ss.Perm (PL.map (·.1))):ss.mergeSort (λx y=>decide (x<=y))=PL.map (·.1):=by
 refine List.Perm.eq_of_pairwise (le:=λa b=>decide (a<=b)=true) (λa b _ _ h1 h2=> ?_) ?_ ?_ ((List.mergeSort_perm ss _).trans hp)
 ·simp at h1 h2;omega
 ·exact List.pairwise_mergeSort (λa b c h1 h2=>by simp at*;omega) (λa b=>sO) ss
 ·rw [List.pairwise_map];exact hs.imp (λ{a b} h=>sO)
end
section
open Go.Sort Shelf
def Mk (PL:List (Int×Nat)) (x:Int×Nat):List (Int×Nat):=PL.filter (λy=>decide (y.1<x.1))++x::PL.filter (λy=>decide (x.1<y.1))
def Fw (hx:∀y∈PL,y.1≠x.1) (z:Int×Nat):z∈Mk PL x↔z=x\/z∈PL:=by
 unfold Mk;simp only [vo,vp,vk,rh];constructor
 ·rintro (h|h|h)
  ·exact .inr h.1
  ·exact .inl h
  ·exact .inr h.1
 ·rintro (h|h)
  ·exact .inr (.inl h)
  ·have:=hx z h;by_cases e:z.1<x.1
   ·exact .inl ⟨h,e⟩
   ·exact .inr (.inr ⟨h,om⟩)
def KA (hs:PL.Pairwise (λa b=>a.1<b.1)):(Mk PL x).Pairwise (λa b=>a.1<b.1):=by
 unfold Mk;rw [ud,se];refine ⟨hs.filter _,⟨λy hy=> ?_,hs.filter _⟩,λa ha b hb=> ?_⟩
 ·simpa using (vk.1 hy).2
 ·have h1:a.1<x.1:=sU ((vk.1 ha).2);rcases vp.1 hb with rfl|hb
  ·exact h1
  ·have h2:x.1<b.1:=sU ((vk.1 hb).2);omega
def Wi (hx:∀y∈PL,y.1≠x.1):(Mk PL x).length=PL.length+1:=by
 have:∀(l:List (Int×Nat)),(∀y∈l,y.1≠x.1)->(l.filter (λy=>decide (y.1<x.1))).length+(l.filter (λy=>decide (x.1<y.1))).length=l.length:=by
  intro l
  induction l with
  |nil=>intro _;rfl
  |cons a r ih=>
   intro h;have h1:=ih (λy hy=>h y (by simp [hy]));have h2:=h a sI;rw [List.filter_cons,List.filter_cons];by_cases e:a.1<x.1
   ·rw [vu (sU e),vz sO];simp;omega
   ·rw [vz (sU e),vu sO];simp;omega
 have h:=this PL hx;unfold Mk;rw [zm,um];omega
def TP {QL:List (Int×Nat)} (hP:PL.Pairwise (λa b=>a.1<b.1)) (hQ:QL.Pairwise (λa b=>a.1<b.1)) (k:Int) (h:∀b,(k,b)∈PL↔(k,b)∈QL):Bg PL k=Bg QL k:=by
 cases h1:Bg PL k with
 |some b=>exact (DJ hQ ((h b).1 (Ln h1))).symm
 |none=>
  cases h2:Bg QL k with
  |none=>rfl
  |some b=>
   have:=DJ hP ((h b).2 (Ln h2));rw [h1] at this;cases this
def eM (hs:PL.Pairwise (λa b=>a.1<b.1)) (hx:∀y∈PL,y.1≠x.1) (k:Int):Bg (Mk PL x) k=if k=x.1 then some x.2 else Bg PL k:=by
 by_cases e:k=x.1
 ·rw [vu e,e];exact DJ (KA hs) ((Fw hx x).2 (.inl rfl))
 ·rw [vz e];refine TP (KA hs) hs k (λb=> ?_);rw [Fw hx];constructor
  ·rintro (h|h)
   ·exact absurd (by rw [<-h]) e
   ·exact h
  ·exact .inr
def AZ.put (h:AZ w pm n PL) (hn:n<maxLen) (k:Int) (b:Nat) (hk: -1000000<=k/\k<=1000000) (hx:∀y∈PL,y.1≠k):
  ∃w',(Instr.mapUpdate 104 (.map (some pm)) (.int .i64 k) (qP b 0)).run prog w= .ok () w'/\AZ w' pm (n+1) (Mk PL (k,b))/\w.grownBy w' (some pm):=by
 obtain ⟨h1,h2,h3,D,hD,h4,h5⟩:=h;have C:=Go.Maps.keyOf_int_mk (P:=prog) underlying3 (a:=k) (ZL om);obtain ⟨w',G,I,hg⟩:=hD.update EP underlying104 hn C (show Bp (qP b 0)=some (.lit (.int .i64 b),[]) from rfl);refine ⟨w',G,⟨by rw [Wi hx];omega,KA h2,λx F=> ?_,_,I,λk'=> ?_,λkl H=> ?_⟩,hg⟩
 ·rcases (Fw hx x).1 F with rfl|q
  ·exact hk
  ·exact h3 x q
 ·rw [eM h2 hx];by_cases e:k'=k
  ·rw [vu e,e,Maps.atKey_put_same hD.isMap (EP.key C)];rfl
  ·rw [vz e,Maps.atKey_put_other (λq=>e (by injection q))];exact h4 k'
 ·by_cases e:kl= .int .i64 k
  ·exact ⟨(k,b),(Fw hx _).2 (.inl rfl),e⟩
  ·rw [Maps.has_put_other e] at H;obtain ⟨x,F,e'⟩:=h5 kl H;exact ⟨x,(Fw hx _).2 (.inr F),e'⟩
def AZ.del (h:AZ w pm n PL) (k:Int) (hk: -1000000<=k/\k<=1000000) (ty:TypeId):
  ∃w',(Builtin.delete_ #[104,3] ty #[.map (some pm),.int .i64 k]).run prog w= .ok (.tuple #[]) w'/\AZ w' pm n (PL.filter (λy=>y.1 !=k))/\w.grownBy w' (some pm):=by
 obtain ⟨h1,h2,h3,D,hD,h4,h5⟩:=h;obtain ⟨w',F,G,hg⟩:=hD.drop EP underlying104 (Go.Maps.keyOf_int_mk (P:=prog) underlying3 (a:=k) (ZL om)) ty;have hf:∀z:Int×Nat,z∈PL.filter (λy=>y.1 !=k)↔z∈PL/\z.1≠k:=λz=>by rw [vk];simp
 refine ⟨w',F,⟨zg (List.length_filter_le _ _) h1,h2.filter _,λx hx=>h3 x ((hf x).1 hx).1,_,G,λk'=> ?_,λkl C=> ?_⟩,hg.grown⟩
 ·by_cases e:k'=k
  ·rw [e,Maps.atKey_del_same,Qu (λx hx=>((hf x).1 hx).2)];rfl
  ·rw [Maps.atKey_del_other (λq=>e (by injection q)),h4 k',TP h2 (h2.filter _) k' (λb=>by rw [hf];exact ⟨λq=>⟨q,e⟩,λq=>q.1⟩)]
 ·by_cases e:kl= .int .i64 k
  ·rw [e,Maps.has_del_same] at C;cases C
  ·rw [Maps.has_del_other e] at C;obtain ⟨x,hx,e'⟩:=h5 kl C;exact ⟨x,(hf x).2 ⟨hx,λq=>e (by rw [e',q])⟩,e'⟩
end
section
open Go.Sort Shelf
def bX (b:Nat):Value:= qP b 0
def EY (PL:List (Int×Nat)):List Value:=PL.map (λx=>bX x.2)
def iy (w:World) (n:Nat) (hn:n<=1000000):∃C:Array Value,C.size=n*1/\(Instr.makeSlice 105 (iV 0) (iV n)).run prog w= .ok (sL w.heap.size 0 0 n) (w.alloc (.cells C 102)):=by
 obtain ⟨i,hi,hz,hs,hb⟩:=info_parts J8;have hr:=run_make (P:=prog) w 105 102 i _ underlying105 hi hz .i64 .i64 0 n om om (by rw [hb];omega) om;rw [hs] at hr;exact ⟨_,by simp [madeCells],hr⟩
structure bY (w w1:World) (pm n gs cs:Nat) (PL:List (Int×Nat)) (k:Nat) (v:Value) (wr:World):Prop where
 row:wr.ownsRow w.heap.size 102 1 v k (EY (PL.take k))
 keys:∀(j:Nat) (x:Int×Nat),PL[j]? =some x->wr.cell? (xK gs j)=some (iV x.1)
 below:Bw w wr
 gsl:gs<wr.heap.size
 form:∃g c,v= sL g 0 k c/\g≠gs
def Wj (kb pm n:Nat) (PL:List (Int×Nat)) (w:World) (hk:cE w kb 9 (.map (some pm))) (c0:kb<w.heap.size) (hm:AZ w pm n PL) (hp:0<PL.length) (hn:PL.length<=1000):
  cT 160 #[qP kb 0] w λe w'=>∃v,e= .returned v/\w'.ownsRow w.heap.size 102 1 v PL.length (EY PL)/\Bw w w':=by
 obtain ⟨m,J⟩:=xE PL.length;obtain ⟨b1,Y,d3⟩:=iy w m om;have c7:∀ty,(Builtin.len_ #[104] ty #[.map (some pm)]).run prog w= .ok (iV (m:Nat)) w:=λty=>by rw [J];exact hm.len ty
 obtain ⟨W1,T⟩:=xE (w.alloc (.cells b1 102));have Z:Bw w W1:=by rw [T];exact bA
 have b5:W1.heap.size=w.heap.size+1:=by rw [T];simp
 have b6:W1.ownsRow w.heap.size 102 1 (sL w.heap.size 0 0 m) 0 []:=by rw [T];exact World.ownsRow_made w b1 m (zx _) (by unfold maxLen;omega) Y
 have k1:W1.cell? (xK kb 9)=some (.map (some pm)):=by rw [Z.cell (p:=(xK kb 9)) c0];exact hk
 have c2:AZ W1 pm n PL:=hm.kept (BE Z) sI;obtain ⟨D,hD,G,a2⟩:=c2.keys;have a9:=AC (eK pm W1);have c5:=AC (We pm n D Bp W1 hD (by rw [a2];unfold maxLen;omega) (by rw [a2];omega));obtain ⟨HM,b8,d0,d6,b7,c6⟩:=H6 hm Z b6 T G b5;have O:=AC (xi J (xi hp hn));have a7:m<=1000:=om;obtain ⟨ip,b0,N,V,U⟩:=info_parts J8;have a0:=AC (xi b0 (xi N (xi V U)));clear Z b6 T Y b0 N V U c2 G a2 hD b5 J hp hn;go_enter func160,ntmps160
 go_upto_region 2 with fail
 rw [<-AB d6];clear d3 c7
 go_wp2_with fail
 refine a9.mono ?_;rintro e w2 ⟨rfl,rfl⟩;clear a9 k1
 go_wp2_with fail
 refine c5.mono ?_;rintro e w3 ⟨v,ss,rfl,a4,F,a6⟩;have a8:=Wh HM.2.1 (a4.trans b7.symm);have b4:ss.length=m:=by have:=(a4.trans b7.symm).length_eq;rw [zc] at this;rw [this];exact O.1.symm
 rw [a8,b4] at F;obtain ⟨gs,cs,rfl,d4,b3⟩:=F.form (o1 (AB O))
 have H:∀(j:Nat) (x:Int×Nat),PL[j]? =some x->w3.cell? (xK gs j)=some (iV x.1):=by
  intro j x hx;have d9:=(zy.1 hx).1;have h:=F.cellAt j (o1 (AB O));rw [h,ze,ze,hx];rfl
 have M:=b8.trans (a6.mono b8.size);have c1:=Aw d0 (AC a6);have d5:=AC (show bY w W1 pm n gs cs PL 0 (sL w.heap.size 0 0 m) w3 from ⟨c1,H,M,b3,w.heap.size,m,rfl,o1 (AB c6)⟩);clear a4 F d4 b3 a6 M c1 c5 a8 b4 H;go_wp2
 go_loopw [3,19] (λv i wr=>∃k:Nat,k<=m/\i= iV k/\Hid (bY w W1 pm n gs cs PL k v wr)) (λ_ i _=>m-(intOf i).toNat)
 case atStart=>exact ⟨0,om,rfl,d5⟩
 case round=>
  obtain ⟨k,f0,rfl,HL⟩:=hrel;obtain ⟨g,c,hv,b9⟩:=HL.form;subst hv;by_cases d1:k<m
  ·obtain ⟨x,hx⟩:∃x,PL[k]? =some x:=⟨_,zz (o1 (AB O))⟩;have s0:cE wr gs k (iV x.1):=HL.keys k x hx;have I:=HL.below;have c4:AZ wr pm n PL:=HM.kept (BE I) sI;have a5:=zv hx;have b2:=c4.look x.1 (o1 (HM.2.2.1 x a5));rw [DJ HM.2.1 a5] at b2;unfold BF at b2;have k3:wr.cell? (xK kb 9)=some (.map (some pm)):=by rw [I.cell (p:=(xK kb 9)) c0];exact hk
   obtain ⟨pid,pb⟩:=x;have L:Bw wr (wr.alloc (Obj.cells #[qP pb 0] 102)):=bA;have HA:=AC (Aw HL.row (AC L));have d7:=AC (I.trans (L.mono I.size));have HX:=AC hx;have hl:w.heap.size<=wr.heap.size:=I.size;have f1:(0:Int)<=(k:Int):=om;have f2:(k:Int)<(m:Int):=om;have c9:=AC (show gs<(wr.alloc (Obj.cells #[qP pb 0] 102)).heap.size by have:=HL.gsl;simp;omega);clear L c4 a5 hx I
   go_wp2_with (at_builtin;refine wpList_append_lies _ (by rfl) _ _ 105 (by rfl) w.heap.size 102 ip _ 1 8 underlying105 a0.1 a0.2.1 a0.2.2.1 a0.2.2.2 rfl dz _ k (EY (PL.take k)) (by rfl) (AB HA) (xK wr.heap.size 0) 1 1 [qP pb 0] (by rfl) (by rfl) (Wd wr _ _) (by intro u hu;simp only [vp,uu,or_false] at hu;subst hu;rfl) om (by unfold maxLen;omega) om sO (wr.heap.size+1) sI ?_;intro g8 c8 w8 X C a3 d8)
   have hL:=AB HL;have c3:(Value.slice (some (xK g 0)) k c).ownBlock=some g:=rfl;have a1:gs≠g:=λe=>b9 e.symm;refine ⟨⟨k+1,om,sI,AC ⟨?_,λj y hy=> ?_,?_,?_,g8,c8,rfl,?_⟩⟩,by simp [intOf];omega⟩
   ·have e:EY (PL.take (k+1))=EY (PL.take k)++[qP pb 0]:=by
     unfold EY;rw [uw,AB HX,xj];rfl
    rw [e];exact X
   ·have h0:=hL.keys j y hy
    have h1:(wr.alloc (Obj.cells #[qP pb 0] 102)).cell? (xK gs j)=some (iV y.1):=by
     rw [ux _ _ _ hL.gsl];exact h0
    exact C.cell h1 (by rw [c3];simpa using a1)
   ·have L:=AB d7;refine L.trans ⟨C.os,C.tape,C.output,C.size,λq hq=>C.block q (yz hq L.size) (λe=> ?_)⟩;have:=HA.lt q e.symm;omega
   ·exact yz c9 C.size
   ·rcases a3 with q|q
    ·rw [c3] at q;rw [<-zr q];exact b9
    ·have:=hL.gsl;omega
  ·have d2:k=m:=om;subst d2;have HF:=HL;clear d1;go_wp2;go_ret;refine ⟨_,rfl,?_,HF.below⟩;have h:=HF.row;have J:=O.1;rw [J,uh] at h;rw [J];exact h
end
section
open Go.Sort Shelf
def EI (ln:Int×Nat->Nat) (left:Lit->Bool):List (Int×Nat)->Nat
 |[]=>0
 |x::r=>(if left (.int .i64 x.1)=true then 0 else ln x)+EI ln left r
def Wv {ln:Int×Nat->Nat} {left:Lit->Bool}:∀(PL:List (Int×Nat)),(∀x∈PL,left (.int .i64 x.1)=false)->EI ln left PL=(PL.map ln).sum
 |[],_=>rfl
 |x::r,h=>by
  unfold EI;rw [Wv r (λy hy=>h y (by simp [hy])),h x sI];simp
def TS {ln:Int×Nat->Nat} {left:Lit->Bool}:∀(PL:List (Int×Nat)),(∀x∈PL,left (.int .i64 x.1)=true)->EI ln left PL=0
 |[],_=>rfl
 |x::r,h=>by
  unfold EI;rw [TS r (λy hy=>h y (by simp [hy])),h x sI];simp
def bd {ln:Int×Nat->Nat} {left:Lit->Bool}:∀(PL:List (Int×Nat)),EI ln left PL<=(PL.map ln).sum
 |[]=>zx _
 |x::r=>by
  have:=bd (ln:=ln) (left:=left) r;unfold EI;rw [ub,rz];split<;>omega
def Ww {ln:Int×Nat->Nat} {left C:Lit->Bool}:∀(PL:List (Int×Nat)),(∀x∈PL,C (.int .i64 x.1)=left (.int .i64 x.1))->EI ln C PL=EI ln left PL
 |[],_=>rfl
 |x::r,h=>by
  unfold EI;rw [Ww r (λy hy=>h y (by simp [hy])),h x sI]
def Q4 (a b:Int):(Lit.int .i64 a).sameKey (.int .i64 b)=decide (a=b):=by
 unfold Lit.sameKey;simp
def TT {ln:Int×Nat->Nat} {left:Lit->Bool}:∀(PL:List (Int×Nat)) (x:Int×Nat),PL.Pairwise (λa b=>a.1<b.1)->x∈PL->left (.int .i64 x.1)=true->EI ln (λz=>left z&& !z.sameKey (.int .i64 x.1)) PL=EI ln left PL+ln x
 |[],x,_,h,_=>by cases h
 |y::r,x,hs,h,hl=>by
  obtain ⟨h1,h2⟩:=se.1 hs;unfold EI;rcases vp.1 h with e|hr
  ·subst e;rw [Q4,ve rfl,hl,Ww (left:=left) r (λz hz=>by rw [Q4,vf (o1 (h1 z hz))];simp)];simp;omega
  ·have C:y.1≠x.1:=o1 (h1 x hr);rw [Q4,vf C,TT r x h2 hr hl];simp;omega
def Wx {c:Option Nat} {y:DataW Unit×List MemPlace} (h:Bp (BF c)=some y) (hy:y.1=DT (some b)):c=some b:=Qo h hy
def be {x:Int} {kl:Lit} (h:keyOf prog 3 (.int .i64 x)=some kl) (hk:kl= .int .i64 k):x=k:=by
 subst hk;unfold keyOf at h;simp [underlying3,mapKey] at h;exact h.2
def JN (w:World) (PL:List (Int×Nat)) (ln:Int×Nat->Nat):Prop:=∀x∈PL,x.2<w.heap.size/\∃PS,Hy w x.2 PS/\Bc PS/\PS.length=ln x/\PS.length<=256
def Om (kb pm n:Nat) (PL:List (Int×Nat)) (ln:Int×Nat->Nat) (w:World) (hk:cE w kb 9 (.map (some pm))) (hm:AZ w pm n PL) (hp:JN w PL ln) (hn:(PL.map ln).sum<=1000000):
  cT 132 #[qP kb 0] w λe w'=>e= .returned (.int .i64 ((PL.map ln).sum:Nat))/\Bw w w':=by
 obtain ⟨h1,hs,h3,D,hD,h4,h5⟩:=hm;have HS:=AC hs;have H4:=AC h4;have H5:=AC h5;have HD:=AC hD;have HP:=AC hp;have HN:=AC hn;have b3:=AC hD.lt
 have T:=AC (show ∀x∈PL,Maps.has D (.int .i64 x.1)=true from λx hx=>by
  cases hh:Maps.has D (.int .i64 x.1) with
  |true=>rfl
  |false=>
   have:=h4 x.1;rw [Maps.atKey_of_not_has hh,DJ hs hx] at this
   cases this)
 clear h1 hs h3 hD h4 h5 hp hn;go_enter func132,ntmps132
 go_wp2_with (first|(at_range;refine wpList_range_own _ rfl _ 104 rfl 3 102 EP underlying104 Bp pm n D rfl HD ?_;intro w0 M C b2)|go_in)
 have a9:=AC M;have b5:=AC (show Bw w w0 from ⟨C.os,C.tape,C.output,C.size,λk hk=>C.block k hk sI⟩);clear M C b2 hk
 go_frame
 go_loopw [3] (λc wr=>∃(left:Lit->Bool) (O s:Nat),Hid (wr.ranges prog 3 Bp pm w.heap.size n D left O)/\Hid (∀kl,left kl=true->Maps.has D kl=true)/\c= .int .i64 (s:Nat)/\Hid (s=EI ln left PL)/\Hid (Bw w wr)) (λ_ wr=>wr.rangeLeft pm w.heap.size)
 case atStart=>exact ⟨_,_,0,a9,AC (λkl h=>h),rfl,AC (TS PL (λx hx=>AB T x hx)).symm,b5⟩
 case round=>
  obtain ⟨left,O,s,a4,a2,rfl,a7,HB⟩:=hrel
  go_wp2_with (first
   |(at_next;refine wpList_next_ranges _ rfl _ rfl 3 EP Bp (Value.int .i64) BF ZB UW pm w.heap.size n D left O rfl a4 ?_ ?_)
   |go_in)
  ·intro b6 X;have HE:=AC (show s=(PL.map ln).sum by rw [AB a7];exact Wv PL (λx hx=>X _));clear X b6;go_wp2;go_ret;exact ⟨by rw [AB HE];rfl,AB HB⟩
  ·intro x c kl y1 y2 w1 b4 H N hv a6 I Z F a3 a8;obtain ⟨z,hz,a5⟩:=AB H5 kl (AB a2 kl N);obtain rfl:=be H a5;subst a5;obtain rfl:=Wx hv (show y1=DT (some z.2) by rw [<-a6 .nil,AB H4 z.1,DJ (AB HS) hz]);have V:Bw w w1:=HB.trans ⟨F.os,F.tape,F.output,F.size,λk hk=>F.block k (o1 HB.size) (by simp;have:=AB b3;omega)⟩;obtain ⟨b0,PS,a0,Y,a1,G⟩:=AB HP z hz;have U:=AC (G1 z.2 17 PS w1 Y (a0.below V b0));have L:=AC I;have b7:=AC V;obtain ⟨q,hq⟩:=xE PS.length;rw [<-hq] at U G;have J:=AC (show s+q=EI ln (λv=>left v&& !v.sameKey (.int .i64 z.1)) PL by rw [TT PL z (AB HS) hz N,<-AB a7,hq,a1]);have b8:s+q<=1000000:=o3 (AB J) (bd (ln:=ln) (left:=λv=>left v&& !v.sameKey (.int .i64 z.1)) PL) (AB HN);have a3:(s:Int)+(q:Int)<=1000000:=om;have b1:=AC Z;clear H N hv a6 I Z F a3 V hz a0 Y a1 hq
   unfold BF at a8 ⊢
   go_wp2_with fail
   refine U.mono ?_;rintro e w2 ⟨rfl,rfl⟩;clear a8 U;go_wp2;exact ⟨⟨_,_,s+q,L,AC (λkl h=>AB a2 kl (ug _ _▸h:left kl=true/\_).1),by go_num,J,b7⟩,by rw [L.left_eq,a4.left_eq];have:=AB b1;omega⟩
end
def Mp (xs:List Ino):∀(n:Nat) (id:Int) (t:ByteArray),Dn (xs.map erase) n id t=Dn xs n id t
 |0,_,_=>rfl
 |n+1,id,t=>by
  unfold Dn;split
  ·rfl
  ·rw [List.find?_map,show (λx:Ino=>x.id==id)∘erase=(λx:Ino=>x.id==id) from rfl]
   cases xs.find? (λx=>x.id==id) with
   |none=>rfl
   |some x=>exact Mp xs n x.parent _
def Ur (xs:List Ino) (id:Int):C6 (xs.map erase) id=C6 xs id:=Mp xs _ _ _
def Sb (xs:List Ino) (n:Nat):Ej (xs.map erase) n=Ej xs n:=by
 unfold Ej;rw [<-List.map_take,List.filter_map,zc];rfl
def Wy {cs:List (List Int)} {FL:List AQ} (h:WU (xs.map erase) cs FL):WU xs cs FL:=by
 refine ⟨λi x c hx hc hp=> ?_,?_,h.sorted⟩
 ·obtain ⟨J,h1,h2⟩:=h.each i (erase x) c (by rw [ze,hx];rfl) hc hp;rw [Ur] at h1 h2;exact ⟨J,h1,h2⟩
 ·have:=h.count;rw [zc,Sb] at this;exact this
def Sc (h:MZ (xs.map erase)):MZ xs:=by
 refine ⟨λx hx=>h.down (erase x) (yt.2 ⟨x,hx,rfl⟩),λx hx hp=> ?_,λx hx=>h.names (erase x) (yt.2 ⟨x,hx,rfl⟩)⟩;obtain ⟨y,hy,he⟩:=h.there (erase x) (yt.2 ⟨x,hx,rfl⟩) hp;obtain ⟨z,hz,rfl⟩:=yt.1 hy;exact ⟨z,hz,he⟩
def CS (R:List Int):List Pg:=[⟨254,6,R.take 256⟩,⟨255,6,R.drop 256⟩]
def Kn (R:List Int) (h:R.length=512):∀p∈CS R,0<=p.perm/\p.perm<=255/\p.bytes.length=256:=by
 intro p hp;simp only [CS,vp,List.mem_nil_iff,or_false] at hp;rcases hp with rfl|rfl
 ·exact ⟨show (0:Int)<=6 by decide,show (6:Int)<=255 by decide,by simp [h]⟩
 ·exact ⟨show (0:Int)<=6 by decide,show (6:Int)<=255 by decide,by simp [h]⟩
def BA (p:PK):AP:=⟨1,0,0,0,0,AO (p.fileOf Aj) 24 8,List.replicate 15 0++[65024+(Dc [BI]:Int)],Ad (p.fileOf Aj)++CS (AS [BI]),[-1, -1, -1,0,0,0,0,0]⟩
def Q5 (PS:List Pg) (R:List Int):As (PS++CS R)=As PS++ED R 2:=by
 unfold As;rw [ur];congr 1;show AY 254 6 (R.take 256)++(AY 255 6 (R.drop 256)++[])=AY 254 6 (R.take 256)++AY 255 6 (R.drop 256);rw [xr]
def Mq (E:Int) (sp:Int) (pv:Value):Ij Gk 0 pv E sp=Au 1 0 0 0 0 E (List.replicate 15 0++[sp]) pv [-1, -1, -1,0,0,0,0,0]:=rfl
def Q6 (h:MP B):(Ad B).length<=256:=Hg (λq hq=>h.2.2.1 q hq)
def pagesOf (p:PK):List Nat:=[(Ad (p.fileOf Aj)).length+2]
def eX {FZ:List AQ} (h:Pe FZ=true):FZ.length<=100/\(FZ.map (λf=>f.bytes.length)).sum<=200000:=by
 unfold Pe at h;simp only [ug,rh] at h;refine ⟨h.1,zg ?_ h.2⟩;clear h
 induction FZ with
 |nil=>simp
 |cons a r ih=>simp [Fc] at ih ⊢;omega
def ZS (w:World):((#[{name:= "PC",type:=73,offset:=0,embedded:=false,tag:= "",pkgPath:= "",byteOffset:=0},{name:= "Regs",type:=74,offset:=1,embedded:=false,tag:= "",pkgPath:= "",byteOffset:=8},{name:= "Space",type:=186,offset:=17,embedded:=false,tag:= "",pkgPath:= "",byteOffset:=136}]:Array Field).mapM λf=>(do pure (f.offset,<-sizeOf f.type):Sem (Nat×Nat))).run prog w= .ok #[(0,1),(1,16),(17,65792)] w:=by
 simp [sizeOf73,sizeOf74,sizeOf186]
def eY (E:Int) (S:List Value) (hS:S.length=65792) (w:World):(Instr.build 188 #[(0,uV E),(2,.agg S.toArray)]).run prog w= .ok (.agg (CK E Co S).toArray) w:=by
 have F:=zeroValue188 w;have hl:zeroCells188.toList.length=65809:=by rw [xl];exact zeroCells188_size
 have C:=nZ;generalize zeroCells188=ZA at F hl C;obtain ⟨Z⟩:=ZA;have hl:Z.length=65809:=hl;have C:Z.take 17=List.replicate 17 (uV 0):=C
 have G:Instr.fill (λi=>(#[(0,1),(1,16),(17,65792)]:Array (Nat×Nat))[i]?) (Value.agg Z.toArray).cells [(0,Value.int .u64 E),(2,Value.agg S.toArray)]=some (CK E Co S).toArray:=by
  show Instr.fill _ Z.toArray _=_;rw [Dw _ _ 0 0 1 _ _ rfl rfl (by rw [hl];omega),Dw _ _ 2 17 65792 _ _ rfl (by simp [Value.cells,hS]) (by rw [BJ _ _ _ (by simp [Value.cells,hl])];omega)];refine congrArg some (congrArg List.toArray ?_);have e0:Z=List.replicate 17 (uV 0)++Z.drop 17:=by rw [<-C,uq]
  have hd:(Z.drop 17).length=65792:=by rw [sx,hl]
  generalize Z.drop 17=D at e0 hd;subst e0;unfold splice CK Co;simp [Value.cells,hd,hS,ri]
 unfold Instr.build;simp only [uk,F,ye,ue underlying188,ZS,G];rfl
def bf:(prog.info? 188).map (·.size)=some 65809:=by
 have h:=sizeOf188 default
 cases hi:prog.info? 188 with
 |none=>simp [sizeOf,typeInfo,hi] at h
 |some i=>simp [sizeOf,typeInfo,hi] at h;simp [h]
def ZU (E:Int) (R:List Int) (hS:∀v∈S,v.oneCell'=true):∀v∈CK E R S,v.oneCell'=true:=by
 intro v hv;unfold CK at hv;rcases vo.1 hv with h|h
 ·rcases vp.1 h with rfl|h
  ·rfl
  ·obtain ⟨x,_,rfl⟩:=yt.1 h;rfl
 ·exact hS v h
def Wz {E':Int} {R':List Int} {S':List Value} (h1:(CK E R S).length=65809) (h2:(CK E' R' S').length=65809):splice (AX E R S pid par st su wk fds) 0 (CK E' R' S')=AX E' R' S' pid par st su wk fds:=by
 unfold splice AX;rw [zq,List.take_zero,xt,h2,List.drop_left' h1]
def jM (hR:R.length=16) (x:Int):(AX E R S pid par st su wk fds).set 16 (uV x)=AX E (R.set 15 x) S pid par st su wk fds:=by
 unfold AX CK
 have e:((Value.int .u64 E::R.map (Value.int .u64))++S).set 16 (uV x)=(Value.int .u64 E::(R.set 15 x).map (Value.int .u64))++S:=by
  rw [List.set_append_left _ _ (by simp [hR]),zi,List.map_set]
 rw [List.set_append_left _ _ (by simp [hR];omega),e]
def LG {B:List Int} {ss:List Seg}:∀(n:Nat),(∀p,p<n->ss.countP (λs=>cov s p)<=1)->(Bl B ss n).Pairwise (λp q=>p.num<q.num)/\∀q∈Bl B ss n,0<=q.num/\q.num<(n:Int)
 |0,_=>by simp [Bl]
 |n+1,h=>by
  obtain ⟨h1,h2⟩:=LG (B:=B) n (λp hp=>h p om);rw [Hs];have hc:=h n om;rw [qr] at hc;generalize hF:ss.filter (λs=>cov s n)=F at hc;refine ⟨ud.2 ⟨h1,?_,λa ha b hb=> ?_⟩,λq hq=> ?_⟩
  ·cases F with
   |nil=>simp
   |cons x r=>
    have:r=[]:=by cases r with
     |nil=>rfl
     |cons y t=>simp at hc
    subst this;simp
  ·obtain ⟨x,_,rfl⟩:=yt.1 hb;exact (h2 a ha).2
  ·rcases vo.1 hq with h3|h3
   ·have:=h2 q h3;omega
   ·obtain ⟨x,_,rfl⟩:=yt.1 h3;show 0<=(n:Int)/\(n:Int)<((n+1:Nat):Int);omega
def ZV (h:MP B):Bc (Ad B)/\∀p∈Ad B,p.num<254:=by
 have hs:=LG (B:=B) (ss:=Bb B) 256 (λp hp=>h.2.2.1 p hp)
 have hm:∀p∈Ad B,∃(n:Nat) (s:Seg),p.num=n/\p.perm=s.perm/\s∈Bb B/\cov s n=true:=by
  intro p hp;obtain ⟨n,_,hq⟩:=sy.1 hp;obtain ⟨s,hs,rfl⟩:=yt.1 hq;obtain ⟨h1,h2⟩:=vk.1 hs;exact ⟨n,s,rfl,rfl,h1,h2⟩
 have D:∀s∈Bb B,∃i,GW B (64+56*i)/\s=D7 B (64+56*i):=by
  intro s hs;unfold Bb BU at hs;obtain ⟨i,hi,rfl⟩:=yt.1 hs;exact ⟨i,h.2.1 i (zf.1 hi),rfl⟩
 have C:∀p∈Ad B,p.num<254:=by
  intro p hp;obtain ⟨n,s,h1,_,h3,h4⟩:=hm p hp;obtain ⟨i,hi,rfl⟩:=D s h3;have hl:=(Fq.1 h4).2;have:=hi.2.2.2.2.2.2;have:=hi.2.2.1;unfold Seg.last at hl;omega
 refine ⟨⟨hs.1,λp hp=> ?_⟩,C⟩;obtain ⟨n,s,h1,h2,h3,h4⟩:=hm p hp;obtain ⟨i,hi,rfl⟩:=D s h3;have F:=hi.2.1;obtain ⟨a,b,c⟩:=Kd h p hp;have:=C p hp;refine ⟨om,om,?_,b,c⟩;rw [h2];exact F.1
def Pi (h:MP B) (R:List Int) (hR:R.length=512):Bc (Ad B++CS R):=by
 obtain ⟨h1,h2⟩:=ZV h;refine ⟨ud.2 ⟨h1.sorted,by simp [CS],λa ha b hb=> ?_⟩,λp hp=> ?_⟩
 ·have:=h2 a ha;simp only [CS,vp,List.mem_nil_iff,or_false] at hb;rcases hb with rfl|rfl
  ·show a.num<254;omega
  ·show a.num<255;omega
 ·rcases vo.1 hp with hp|hp
  ·exact h1.each p hp
  ·have hb:=(Kn R hR p hp).2.2;simp only [CS,vp,List.mem_nil_iff,or_false] at hp;rcases hp with rfl|rfl
   ·exact ⟨show (0:Int)<=254 by decide,show (254:Int)<256 by decide,show (1:Int)<=6 by decide,show (6:Int)<=255 by decide,hb⟩
   ·exact ⟨show (0:Int)<=255 by decide,show (255:Int)<256 by decide,show (1:Int)<=6 by decide,show (6:Int)<=255 by decide,hb⟩
section
variable {oc:Int->Int}
def Q8 (w:World):cT 121 #[sN] w λe w'=>e= .returned (.tuple #[iV 0,.bool false])/\w'=w:=by
 go_enter func121,ntmps121;go_wp2
 go_ret2
 exact ⟨rfl,rfl⟩
def jN (w:World):cT 71 #[sN] w λe w'=>e=Hr 2/\Bw w w':=by
 have HH:=AC (Q8 (w.alloc (.cells #[uV 0,sN] 197)));go_enter func71,ntmps71
 go_wp2_with fail
 refine HH.mono ?_;rintro e w1 ⟨rfl,F⟩;have C:AE w1 w.heap.size 197 [uV 0,sN]:=by rw [F];exact AE.new w 197 _
 have D:Bw w w1:=by rw [F];exact (zw w.heap.size w).alloc (zx _) _
 have c0:cE w1 w.heap.size 0 (uV 0):=C.cell rfl;have c1:cE w1 w.heap.size 1 sN:=C.cell rfl;have f0:=C.frozen 0;have f1:=C.frozen 1;obtain ⟨d0,d1,d2⟩:=Jm C D;have D2:=AC d2;clear d2 F C D HH;go_wp2;exact xh (v:= .tuple #[Gf,.iface 40 (iV 2)]) (by simp [results,results71,go_sem,Gf,d0,d1]) rfl ⟨rfl,AB D2⟩
def ed {B:Nat} {v:Value} {c:List Int} (w:World) (hv:GQ w B v c) (hb:AK c) (hl:c.length<=500000) (ht:w.rangeAt 1 0 DK) (C:1<w.heap.size):
  cT 71 #[v] w λe w'=>Bw w w'/\((∃k,Bad c k/\e=Hr k)\/(MP c/\∃g gc,e= .returned (.tuple #[.agg #[uV (AO c 24 8),sL g 0 (Ad c).length gc],.nilIface])/\w'.ownsRow w.heap.size 164 258 (sL g 0 (Ad c).length gc) (Ad c).length (BH (Ad c)))):=by
 rcases hv with ⟨rfl,rfl⟩|⟨R,cp,T,rfl,hR,D,_,_⟩
 ·refine (jN w).mono λe w' h=>⟨h.2,.inl ⟨2,.inl ⟨λq=> ?_,rfl⟩,h.1⟩⟩;have:=q.1;simp at this
 ·refine (gz R 0 cp c w hb om hl (λj hj=> ?_) hR.lt ht C).mono λe w' h=>⟨h.2,dJ hb h⟩;rw [zq];refine hR.cell ?_;rw [DU,zo (by rw [AG];exact hj)];exact AN c j hj
def Ko:eN 74:=enters_of func74 kf rfl
def Q9:eN 75:=enters_of func75 kf rfl
def Sd:eN 76:=enters_of func76 kf rfl
def bg (R:List Int):Cb R 2=BH (CS R):=by
 unfold Cb CS BH;simp
def Ms {PS:List Pg} (h:Bc PS):PS.length<=256:=by
 have:=Il PS 256;rwa [Kg h] at this
def Se (j:Nat) (h:j<65792):Af[j]? =some (.int .u8 0):=by
 unfold Af;rw [xn,vu h]
def RA {pb:Nat} (hR:R.length=16) (h:AE w pb 193 (AX E R Af pid par st su wk fds)):Hy w pb []:=λj hj=>by
 refine h.cell ?_;have h1:(Value.int .u64 E::R.map (Value.int .u64)).length=17:=by simp [hR]
 unfold AX CK;rw [zo (by rw [zm,h1,CY];omega),zn om,h1,yc];exact Se _ om
def nI:Bc []:=⟨List.Pairwise.nil,λp hp=>by cases hp⟩
def ZX (x:Int):Co.set 15 x=List.replicate 15 0++[x]:=rfl
def Pk (x y:Operand) (a b:Int) (h: -9223372036854775808<=a+b/\a+b<=9223372036854775807) (w:World):((do eqGuard .add 3 x y (iV a) (iV b);binOp .add 3 (iV a) (iV b):Sem Value)).run prog w= .ok (iV (a+b)) w:=by
 go_simp;rw [yg];omega
def Fd (p:PK) (FL:List Nat) (fi:Nat) (s:ByteArray) (ss:List ByteArray) (pb:Nat) (pid par st su wk:Int) (fds:List Value) (w:World) (e:Ending) (w':World):Prop:=
 (∃c,p.ExecErr FL fi s ss c/\e=Bz c/\Bw w w')\/
 (p.ExecOk FL fi s ss/\e= .returned .nilIface/\C7 w w' [pb]/\AE w' pb 193 (AX (AO (p.fileOf s) 24 8) (List.replicate 15 0++[65024+(Dc ss:Int)]) (AW (Ad (p.fileOf s)++CS (AS ss))) pid par st su wk fds))
def On (FL:List Nat) (fi B tb ab am kb pb q so l0:Nat) (a:Option Addr) (E0 pid par st su wk mm:Int) (R0:List Int) (S0 fds:List Value) (NB MB:List Nat) (V:List Value) (s:ByteArray) (ss:List ByteArray) (w:World)
  (hr:BS w B tb ab am p NB MB V oc) (hi:EX p) (n4:By p.cs) (hu:AM p.cs<=500000) (a8:p.xs.length<=900000) (n8:0<=p.li/\p.li<=1000000) (k9:(AM p.cs:Int)<=p.lb/\p.lb<=1000000) (h4:0<=p.lf/\p.lf<=1000000) (o0:FL.sum<=1000000/\FL.getD fi 0<=1000000)
  (c5:cE w kb 5 (qP tb 0)) (o7:∀W,Bw w W->cT 74 #[qP kb 0] W λe w'=>e= .returned (iV (p.lf-(FL.sum:Int)))/\Bw W w') (p2:∀W,Bw w W->cT 75 #[qP pb 17] W λe w'=>e= .returned (iV (FL.getD fi 0:Nat))/\Bw W w')
  (hp:AE w pb 193 (AX E0 R0 S0 pid par st su wk fds)) (p3:R0.length=16) (m9:S0.length=65792) (q5:∀v∈fds,v.oneCell'=true)
  (m6:ss.length<=1000) (ha:0<ss.length->a=some (xK q so)) (hq:q<w.heap.size) (a0:∀i,i<ss.length->w.cell? (xK q (so+i))=some (.string (ss.getD i ByteArray.empty)))
  (hs:s.size<=maxLen) (ht:w.rangeAt 1 0 DK) (l8:1<w.heap.size) (o9:cE w 3 0 (iV mm)) (n6:3<w.heap.size):
  cT 35 #[qP kb 0,qP pb 0,.string s,.slice a ss.length l0] w (Fd p FL fi s ss pb pid par st su wk fds w):=by
 have i6:=AC (ZW p B tb ab am (AM p.cs) NB MB V s mm w hr.tree hi a8 n8 ⟨om,k9.1⟩ k9.2 hs o9 n6);have HR:=AC hr;have HI:=AC hi;have m2:=AC (xi o7 p2);have p8:=AC hp;have N:=AC (show By p.cs/\AM p.cs<=500000/\p.xs.length<=900000/\((0<=p.lf/\p.lf<=1000000)/\FL.sum<=1000000/\FL.getD fi 0<=1000000)/\ss.length<=1000/\q<w.heap.size/\1<w.heap.size from ⟨n4,hu,a8,⟨h4,o0⟩,m6,hq,l8⟩);have j2:=AC (xi ha a0);have HT:=AC ht;have m0:=AC (xi p3 m9);clear hr hi o7 p2 hp n4 hu a8 h4 o0 n8 k9 m6 ha hq a0 ht l8 o9 n6 hs q5 p3 m9;go_enter func35,ntmps35
 go_wp2_with fail
 refine i6.mono ?_;rintro e w3 ⟨f3,(⟨he,rfl⟩|⟨he,i,x,c,y1,y2,y3,o3,m5,hn,rfl⟩)⟩
 ·have HP:=AC (show Fd p FL fi s ss pb pid par st su wk fds w (Bz (DN p s)) w3 from .inl ⟨_,by
   unfold DN at he ⊢;by_cases q1:(AH p.xs s).e=0
   ·rw [vz (sU q1)] at he ⊢;by_cases q2:(AH p.xs s).n=0
    ·rw [vu q2];exact .inr ⟨q1,.inl ⟨q2,rfl⟩⟩
    ·rw [vz q2] at he ⊢;by_cases q3:Ce p.xs (AH p.xs s).n=true
     ·rw [vu q3];exact .inr ⟨q1,.inr ⟨q2,.inl ⟨q3,rfl⟩⟩⟩
     ·rw [vz q3] at he;exact absurd rfl he
   ·rw [vu q1]
    exact .inl ⟨q1,rfl⟩,rfl,f3⟩)
  clear f3 he i6 c5;unfold Pj;go_wp2;go_ret;exact AB HP
 ·have q7:=AC f3;have j7:=AC (HR.below f3);have HE:=AC m5;clear f3 he m5 i6 c5
  ·
   have l2:=(zy.1 y1).1;obtain ⟨fc,d3⟩:∃fc,p.cs[i]? =some fc:=⟨_,zz (by rw [HI.len];exact l2)⟩
   have n1:p.fileOf s=fc:=by
    unfold PK.fileOf;rw [<-y2,Nc HI.incr y1,zk,show ((i:Int)).toNat=i from rfl,d3];rfl
   obtain ⟨mi,o5⟩:∃mi,MB[i]? =some mi:=⟨_,zz (by rw [j7.tree.len.2];exact l2)⟩;obtain ⟨qn,v1,r7,z1,_,z3,_⟩:=j7.tree.node i x c mi y1 y3 o5;have h8:=j7.cont i v1 fc z3 d3;obtain ⟨va,vc,m1⟩:=h8.len;rw [m1] at z1 h8;have a3:Ce p.xs (AH p.xs s).n=false:=by rw [<-y2,Ga HI.incr y1,o3]
   have a9:=AC n1;have p5:=AC z1;have n5:=AC h8;have a2:=AC (xi hn a3);have n3:=AC (show fc.length<=500000/\AK fc from ⟨o2 (Ka d3) N.2.1,N.1 fc (zv d3)⟩);clear l2 d3 n1 o5 z3 h8 m1 a3 y1 y2 y3 o3 hn;have a4:=q7;have l5:=AC (SS c va fc.length vc w3 (p5.cell rfl));have j5:=AC (ed w3 (AB n5) n3.2 n3.1 (λj v hj=>by rw [a4.cell (p:=(xK 1 (0+j))) N.2.2.2.2.2.2];exact AB HT j v hj) (o2 N.2.2.2.2.2.2 a4.size));clear z1 p5 n5
   go_wp2_with fail
   refine l5.mono ?_;rintro e c4 ⟨rfl,p9⟩;subst p9;clear l5
   go_wp2_with fail
   refine j5.mono ?_;rintro e w5 ⟨c6,(⟨kk,b7,rfl⟩|⟨H,g,gc,rfl,a6⟩)⟩
   ·have d9:=b7.code;have HP:=AC (show Fd p FL fi s ss pb pid par st su wk fds w (Bz kk) (w5.alloc (Obj.cells #[uV 0,sN] 197)) from .inl ⟨kk,.inr ⟨AB HE,.inr ⟨a2.1,.inr ⟨a2.2,.inl (by rw [AB a9];exact b7)⟩⟩⟩,rfl,(a4.trans (c6.mono a4.size)).alloc (zg a4.size c6.size) _⟩);unfold Hr Gf;clear b7 d9 c6 j5;go_wp2;go_ret;exact AB HP
   obtain ⟨W6,c7⟩:=xE (w5.alloc (Obj.cells #[uV (AO fc 24 8),sL g 0 (Ad fc).length gc] 197));have h6:AE W6 w5.heap.size 197 [uV (AO fc 24 8),sL g 0 (Ad fc).length gc]:=by rw [c7];exact AE.new w5 197 _
   have j8:Bw w5 W6:=by rw [c7];exact bA
   have d6:=AC (a4.trans ((c6.trans (j8.mono c6.size)).mono a4.size));have b5:=Aw a6 (AC j8);have j0:=a6.lt g rfl;have r3:(Ad fc).length<=256:=Q6 H;obtain ⟨n0,f1⟩:=xE ((Ad fc).length);obtain ⟨E,hE⟩:=xE (AO fc 24 8);rw [<-f1,<-hE] at c7 h6;rw [<-f1] at b5 r3;rw [<-f1,<-hE];have f5:c4.heap.size<=g/\g<w5.heap.size:=⟨j0.1,j0.2⟩;obtain ⟨QB,k8⟩:=xE w5.heap.size;have i9:=AC (show c4.heap.size<=g/\g<QB/\w.heap.size<=c4.heap.size/\QB<W6.heap.size from ⟨f5.1,om,a4.size,by rw [k8];exact h6.lt⟩);have i4:=AC H;have h3:=AC (xi f1 hE);have H6:=AC h6;have d2:=AC b5;have n7:=AC c7;clear H a6 c6 j8 b5 j0 f5 f1 hE h6 c7 j5
   go_upto_region 7 with fail
   rw [<-AB n7];rw [<-k8] at H6 ⊢;clear k8 n7;have i2:∀j,j<ss.length->W6.cell? (xK q (so+j))=some (.string (ss.getD j ByteArray.empty)):=λj hj=>by rw [d6.cell (p:=(xK q (so+j))) N.2.2.2.2.2.1];exact j2.2 j hj
   by_cases d4:Cv ss=true
   case neg=>
    have c0:Cv ss=false:=sU d4;have i5:=AC (SI a q so l0 ss W6 N.2.2.2.2.1 j2.1 i2 c0);have HP:=AC (show Fd p FL fi s ss pb pid par st su wk fds w (Bz 6) W6 from .inl ⟨6,.inr ⟨AB HE,.inr ⟨a2.1,.inr ⟨a2.2,.inr ⟨by rw [AB a9];exact AB i4,.inl ⟨c0,rfl⟩⟩⟩⟩⟩,rfl,AB d6⟩);clear d4 c0 i2
    go_wp2_with fail
    refine i5.mono ?_;rintro e w7 ⟨rfl,r2⟩;subst r2;go_wp2;go_ret;exact AB HP
   have i5:=AC (eb a q so l0 ss W6 N.2.2.2.2.1 j2.1 (o2 N.2.2.2.2.2.1 d6.size) i2 d4);have j6:=AC d4;clear d4 i2
   go_wp2_with fail
   refine i5.mono ?_;rintro e w7 ⟨g5,rfl,b0,r5,h1⟩;have q9:=h1.size;have o6:=AC (d6.trans (h1.mono d6.size));have h9:=H6.below h1 H6.lt;have d0:cE w7 QB 0 (uV E):=h9.cell rfl;have d1:cE w7 QB 1 (sL g 0 n0 gc):=h9.cell rfl;have g0:=AC (Aw d2 (AC h1));obtain ⟨ip,l7,d8,g2,f7⟩:=info_parts MN;have h2:=AC (xi l7 (xi d8 (xi g2 f7)));have j4:=CE j6;have M:(Cb (AS ss) 2).length=2*258:=Jj _ j4 2;have a5:∀u∈Cb (AS ss) 2,u.oneCell'=true:=by rw [bg];exact P8 _
   obtain ⟨SR,j3⟩:=xE (Cb (AS ss) 2);rw [<-j3] at M a5 b0;have p0:=AC (xi j3 j4);have k7:=AC (xi M a5);have l6:=AC (Hf (AC b0));have G:c4.heap.size<=w7.heap.size:=o1 (AB i9);have p6:=AC (show w.heap.size<=w7.heap.size/\QB<w7.heap.size from ⟨o6.size,h9.lt⟩);clear b0 l7 d8 g2 f7 j4 M a5 j3 h9 h1 r5 i5 d2 H6 q9
   go_upto_region 11 with (at_builtin;refine wpList_append_lies _ (by rfl) _ _ 158 (by rfl) c4.heap.size 164 ip _ 258 272 underlying158 h2.1 h2.2.1 h2.2.2.1 h2.2.2.2 (by show DQ.toArray.size=258;simp [Ev]) dz _ n0 _ (by rfl) (AB g0) (xK g5 0) 2 2 SR (by rfl) k7.1 (AB l6) k7.2 om (by unfold maxLen;omega) om G w7.heap.size (by rfl) ?_;intro g8 c8 w8 I C d7 h0)
   have C:w7.grownBy w8 (some g):=C;have q8:=AB i9;have h7:Bw w w8:=o6.trans (Aa C om p6.1);have k5:cE w8 QB 0 (uV E):=C.cell d0 sO;obtain ⟨PS,g4⟩:=xE (Ad fc++CS (AS ss));have U:Bc PS:=by rw [g4];exact Pi (AB i4) _ p0.2
   have h5:PS.length=n0+2:=by rw [g4,zm,<-h3.1];rfl
   obtain ⟨NN,j1⟩:=xE (n0+2)
   have j9:If w8 g8 PS:=by
    refine iD (base:=c4.heap.size) (gc:=c8) (λq hq=>(U.each q hq).2.2.2.2) ?_;rw [h5,show BH PS=BH (Ad fc)++SR by rw [g4,IK,p0.1,bg]];exact I
   rw [<-j1];have h5:PS.length=NN:=om;obtain ⟨FR,l3⟩:=xE (p.lf-(FL.sum:Int));obtain ⟨CT,k4⟩:∃CT:Int,CT=((FL.getD fi 0:Nat):Int):=⟨_,rfl⟩;obtain ⟨LF,k0⟩:=xE (FR+CT)
   have h4:(-1000000<=FR/\FR<=1000000)/\(0<=CT/\CT<=1000000):=by
    have:=N.2.2.2.1;omega
   have f6:∀ww,Bw w8 ww->Bw w ww:=λww h=>h7.trans (h.mono h7.size);have q4:=AC f6
   have m8:=AC (show ∀ww,Bw w8 ww->cT 74 #[qP kb 0] ww λe w'=>e= .returned (iV FR)/\Bw ww w' from λww hh=>by
    rw [l3]
    exact m2.1 ww (f6 ww hh))
   have p4:=AC (show ∀ww,Bw w8 ww->cT 75 #[qP pb 17] ww λe w'=>e= .returned (iV CT)/\Bw ww w' from λww hh=>by
    rw [k4]
    exact m2.2 ww (f6 ww hh))
   obtain ⟨qb,i0⟩:∃qb:Bool,qb=decide (LF<(NN:Int)):=⟨_,rfl⟩
   have R9:=AC (show ∀w':World,((do eqGuard .add 3 (.tmp 52) (.tmp 57) (iV FR) (iV CT);binOp .add 3 (iV FR) (iV CT):Sem Value)).run prog w'= .ok (iV LF) w' from λw'=>by
    rw [k0]
    exact Pk _ _ FR CT om w')
   have p1:=AC (show ∀w':World,((do eqGuard .gtr 3 (.tmp 50) (.tmp 58) (iV (NN:Int)) (iV LF);binOp .gtr 3 (iV (NN:Int)) (iV LF):Sem Value)).run prog w'= .ok (.bool qb) w' from λw'=>by
    rw [i0];clear f6 j9 U h7 k5 C I d7 d0 d1 i0
    go_simp)
   have p7:=AC i0;have o4:=AC (xi k0 (xi l3 k4));have i3:=AC (show If w8 g8 PS/\g8<w8.heap.size from ⟨j9,h0⟩);have b3:=AC (show PS=Ad fc++CS (AS ss)/\Bc PS/\PS.length=NN/\NN=n0+2 from ⟨g4,U,h5,j1⟩);have g1:=AC k5;have i8:=AC (show QB<w8.heap.size from o2 p6.2 C.size);have m3:Bw w8 w8.drew:=⟨rfl,rfl,rfl,zx _,λ_ _=>rfl⟩;have m7:=AC m3;clear q8 h7 k5 g4 U h5 j9 j1 k0 l3 k4 h4 f6 i0 m3 I C d7 h0 d0 d1 g0 h2 l6 k7 G;refine Ak ?_;intro A hA;have e0:A.eval (.tmp 0)= qP kb 0:=eH hA;have e1:A.eval (.tmp 1)= qP pb 0:=eH hA;have i7:A.eval (.tmp 14)= sL g8 0 NN c8:=eH hA;have k3:A.tmps.size=75:=eZ hA;have c9:=AC hA;clear hA;refine xf (S:=λ_=>True) kf trivial (λhS=> ?_);refine tq 0 49 rfl (yM (sL g8 0 NN c8)) hS ?_
   refine tq 1 50 rfl (Do rfl _ _ rfl (sL g8 0 NN c8) sE (iV (NN:Int)) (λw' _=>gS)) hS (tq 2 51 rfl (yM (qP kb 0)) hS (tq 4 53 rfl (yM (qP pb 0)) hS (tq 5 54 rfl (yN (xK pb 0)) hS (tq 6 55 rfl (yF (qP pb 0) (qP pb 0)) hS (tq 7 56 rfl (yF (qP pb 0) (qP pb 17)) hS ?_)))));refine rdy [3] kf (vq rfl (λK hK=> ?_) vr);refine DH rfl 74 51 _ rfl (qP kb 0) sE Ko _ (iV FR) (λe w' h=>h.1) (AB m8 _ m7) (some 52) rfl ?_;rintro w9 ⟨_,L⟩;have L:Bw w8 w9:=⟨L.os,L.tape,L.output,L.size,L.block⟩;refine hK.out _ _ trivial (λq0=> ?_);clear hK K;refine rdy [8] kf (vq rfl (λK hK=> ?_) vr)
   refine DH rfl 75 56 _ rfl (qP pb 17) sE Q9 _ (iV CT) (λe w' h=>h.1) (AB p4 _ L) (some 57) rfl ?_;rintro O ⟨_,F⟩;refine hK.out _ _ trivial (λb9=> ?_);clear hK K;have b8:=AC (L.trans (F.mono L.size));refine tq 9 58 rfl (yB (iV FR) (iV CT) (iV LF) R9) b9 ?_;refine tq 10 59 rfl (yB (iV (NN:Int)) (iV LF) (.bool qb) p1) b9 ?_;refine vg kf ?_ _;rw [AB c9];simp only [Act.put,zl,zh,zi];have J:=AC ((AB q4) O b8);have F:=AB b8;have f2:O.cell? (xK QB 0)=some (uV E):=by rw [F.cell (p:=(xK QB 0)) (AB i8)];exact AB g1
   have f0:=AC f2;have Z:=AC (show If O g8 PS/\g8<O.heap.size from ⟨i3.1.below F (λ_=>i3.2),o2 i3.2 F.size⟩);have f4:=AC (show QB<O.heap.size from o2 (AB i8) F.size);clear L F hS q0 b9 f2 c9 e0 e1 i7 k3 R9 p1 m8 p4 m7 b8 i3 i8 g1
   cases qb with
   |true=>
    have HP:=AC (show Fd p FL fi s ss pb pid par st su wk fds w (Bz 7) O from .inl ⟨7,.inr ⟨AB HE,.inr ⟨a2.1,.inr ⟨a2.2,.inr ⟨by rw [AB a9];exact AB i4,.inr ⟨AB j6,by
     have h:=tu p7.symm;rw [AB a9,<-h3.1];have:=b3.2.2.2;obtain ⟨z1,z2,z3⟩:=AB o4
     omega,rfl⟩⟩⟩⟩⟩,rfl,AB J⟩)
    go_wp2;go_ret
    exact AB HP
   |false=>
    have r1:=AC (show p.ExecOk FL fi s ss from ⟨AB HE,a2.1,a2.2,by rw [AB a9];exact AB i4,AB j6,by
     have h:=tr p7.symm;rw [AB a9,<-h3.1];have:=b3.2.2.2;obtain ⟨z1,z2,z3⟩:=AB o4
     omega⟩)
    obtain ⟨SP,c3⟩:=xE (AW PS);have M:SP.length=65792:=by rw [c3];exact CM (λq hq=>(b3.2.1.each q hq).2.2.2.2)
    have a5:∀v∈SP,v.oneCell'=true:=by rw [c3];exact JF PS
    have o8:=AC (show cT 76 #[sL g8 0 NN c8] O.drew λe w'=>e= .returned (.agg SP.toArray)/\Bw O w' from by
     have hn:=UM (some (xK g8 0)) g8 c8 PS O.drew b3.2.1 (λ_=>⟨rfl,Z.2⟩) (λi q hq=>Z.1 i q hq) (by have:=Ms b3.2.1;exact this);rw [b3.2.2.1] at hn;refine hn.mono ?_;rintro e w' ⟨rfl,h⟩
     exact ⟨by rw [c3],h.os,h.tape,h.output,h.size,h.block⟩)
    have l9:=AC (xi c3 (xi M a5))
    have R3:=AC (show ∀w':World,w'.cell? (xK QB 0)=some (uV E)->(Instr.loadAt 73 (qP QB 0)).run prog w'= .ok (uV E) w' from λw' h'=>by
     clear c3 M a5
     go_simp)
    have l4:(CK E Co SP).length=65809:=Bj C5 M;have c1:(CK E0 R0 S0).length=65809:=Bj m0.1 m0.2;obtain ⟨CR,g3⟩:=xE (CK E Co SP);have RB:=AC (eY E SP M);rw [<-g3] at RB;obtain ⟨c2,T⟩:=xE (AX E0 R0 S0 pid par st su wk fds);have b1:CR.length=65809:=by rw [g3];exact l4
    have d5:∀v∈CR,v.oneCell'=true:=by rw [g3];exact ZU E Co a5
    have k1:65809<=c2.length:=by rw [T];unfold AX;rw [zm,c1];omega
    have g9:splice c2 0 CR=AX E Co SP pid par st su wk fds:=by rw [T,g3];exact Wz c1 l4
    have b6:=AC (show AE w pb 193 c2 from by rw [T];exact AB p8);have g7:=AC (show (prog.info? 188).map (·.size)=some CR.length/\0+CR.length<=c2.length/\(∀v∈CR,v.oneCell'=true)/\splice c2 0 CR=AX E Co SP pid par st su wk fds from ⟨by rw [bf,b1],by rw [b1];omega,d5,g9⟩);clear c3 M a5 l4 c1 g3 T b1 d5 k1 g9
    go_upto_region 13 with fail
    refine Ak ?_;intro A hA;have e1:A.eval (.tmp 1)= qP pb 0:=eH hA;have r0:A.eval (.tmp 11)= qP QB 0:=eH hA;have i7:A.eval (.tmp 14)= sL g8 0 NN c8:=eH hA;have k3:A.tmps.size=75:=eZ hA;have g6:=AC hA;clear hA;refine xf (S:=λw'=>w'.cell? (xK QB 0)=some (uV E)) kf f0 (λhS=> ?_);refine tq 0 61 rfl (yM (qP pb 0)) hS (tq 1 62 rfl (yF (qP QB 0) (qP QB 0)) hS (tq 2 63 rfl (yl R3) hS (tq 3 64 rfl (yM (sL g8 0 NN c8)) hS ?_)));refine rdy [4] kf (vq rfl (λK hK=> ?_) vr);refine DH rfl 76 64 _ rfl (sL g8 0 NN c8) sE Sd _ (.agg SP.toArray) (λe w' h=>h.1) o8 (some 65) rfl ?_;rintro n9 ⟨_,a7⟩;have b4:n9.cell? (xK QB 0)=some (uV E):=by rw [a7.cell (p:=(xK QB 0)) (AB f4)];exact AB f0
    refine hK.out _ _ b4 (λi1=> ?_);clear hK K;have D:=J.trans (a7.mono J.size);have f9:=b6.below D b6.lt;have q6:pb<w.heap.size:=b6.lt;have a1:∀X,Hid (n9.grownBy X (some pb))->X.cell? (xK QB 0)=some (uV E):=λX g=>g.cell b4 (by simp;have:=AB i9;omega);refine tq 5 66 rfl (EF rfl _ _ rfl #[(0,uV E),(2,.agg SP.toArray)] sE (.agg CR.toArray) RB) i1 ?_;refine tq 6 67 rfl (yN (xK pb 0)) i1 ?_;refine tq 7 68 rfl (yF (qP pb 0) (qP pb 0)) i1 ?_;refine rdy [8] kf (CZ rfl rfl 188 (.tmp 68) (.tmp 66) rfl pb 0 CR sE sE 193 c2 f9 g7.1 g7.2.1 g7.2.2.1 rfl (λX n2 l1=>⟨a1 X l1,λk6=> ?_⟩) vr);refine vg kf ?_ _;rw [AB g6];simp only [Act.put,zl,zh,zi];have f8:=AB n2;rw [g7.2.2.2] at f8
    have Y:(AX E Co SP pid par st su wk fds)[16]? =some (uV 0):=by
     have h:=Bj (E:=E) C5 l9.2.1;unfold AX;rw [zo (by rw [h];omega)];unfold CK Co;rw [zo sI];rfl
    have r8:cE X pb 16 (uV 0):=f8.cell Y;have r6:=f8.frozen 16;have b2:=f8.set 16 (uV (65024+(Dc ss:Int)));rw [jM C5,ZX] at b2
    have r4:=AC (show Fd p FL fi s ss pb pid par st su wk fds w (.returned .nilIface) (X.setCell (xK pb 16) (uV (65024+(Dc ss:Int)))) from .inr ⟨AB r1,rfl,by
     have g:=AB l1;have k2:=D.size;have q:X.grownBy (X.setCell (xK pb 16) (uV (65024+(Dc ss:Int)))) (some pb):=AI ⟨rfl,rfl,rfl,zx _,λ_ _ _=>rfl⟩ 16 _;refine ⟨g.os.trans D.os,g.tape.trans D.tape,g.output.trans D.output,zg k2 (zg g.size q.size),λk hk hn=> ?_⟩;have m4:some k≠some pb:=sU hn;exact (q.block k (o1 g.size) m4).trans ((g.block k om m4).trans (D.block k hk)),by
     rw [AB a9,<-h3.2,<-b3.1,<-l9.1]
     exact b2⟩)
    clear hS i1 b4 k6 a7 D f9 b2 f8 n2 l1 Y g6 e1 r0 i7 k3 o8 RB R3 q6 a1 g7;go_wp2;go_ret;exact AB r4
abbrev ee (p:PK) (s:ByteArray) (ss:List ByteArray) (pb:Nat) (pid par:Int) (fds:List Value):World->Ending->World->Prop:=Fd p [0] 0 s ss pb pid par 0 0 0 fds
def XA (B tb ab am kb pm pb cb q so F:Nat) (a:Option Addr) (pid par mm:Int) (fds:List Value) (NB MB:List Nat) (V:List Value) (s:ByteArray) (ss:List ByteArray) (w:World)
  (hr:BS w B tb ab am p NB MB V oc) (hi:EX p) (M:By p.cs) (hu:AM p.cs<=500000) (D:p.xs.length<=900000) (O:0<=p.li/\p.li<=1000000) (L:(AM p.cs:Int)<=p.lb/\p.lb<=1000000) (G:0<=p.lf/\p.lf<=1000000)
  (hk:AE w kb 110 (Im p.lp p.lf p.lo p.li p.lb tb cb pm)) (hm:Ei w pm pb) (hp:AE w pb 193 (AX 0 Co Af pid par 0 0 0 fds)) (T:∀v∈fds,v.oneCell'=true)
  (I:ss.length<=1000) (ha:0<ss.length->a=some (xK q so)) (hq:q<w.heap.size) (C:∀i,i<ss.length->w.cell? (xK q (so+i))=some (.string (ss.getD i ByteArray.empty)))
  (hs:s.size<=maxLen) (ht:w.rangeAt 1 0 DK) (J:1<w.heap.size) (H:cE w 3 0 (iV mm)) (N:3<w.heap.size):
  cT 35 #[qP kb 0,qP pb 0,.string s,.slice a ss.length F] w (ee p s ss pb pid par fds w):=by
 refine On p [0] 0 B tb ab am kb pb q so F a 0 pid par 0 0 0 mm Co Af fds NB MB V s ss w hr hi M hu D O L G ⟨dz,dz⟩ (hk.cell rfl) (λww hw=> ?_) (λww hw=> ?_) hp C5 CY T I ha hq C hs ht J H N
 ·refine (Qq kb pm pb p.lp p.lf p.lo p.li p.lb tb cb [] ww (hk.below hw hk.lt) (hm.kept (BE hw) sI) (o2 hp.lt hw.size) (RA C5 (hp.below hw hp.lt)) nI sI G).mono ?_;rintro e w' ⟨rfl,h⟩;exact ⟨sI,h⟩
 ·refine (G1 pb 17 [] ww nI (RA C5 (hp.below hw hp.lt))).mono ?_;rintro e w' ⟨rfl,h⟩;subst h;exact ⟨rfl,zw _ _⟩
end
end Go.Proofs.YtpcjkidgohpeoaaGreatDoor
