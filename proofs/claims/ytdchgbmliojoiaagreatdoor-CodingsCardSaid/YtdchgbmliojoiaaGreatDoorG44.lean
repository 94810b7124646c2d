import Derived.Test.YtdchgbmliojoiaaGreatDoorRows
import Derived.LaidMore
import Derived.LaidHandle
import Derived.OpenShut
import Derived.Stop.Joined
import Derived.SevenTiedAt
import Derived.Test.YtdchgbmliojoiaaGreatDoorG35
import Derived.ChangeSlices
import Derived.SizedLaws
import Derived.WideShapes
import Derived.Deep.Slices
import Derived.Deep.Strs
import Derived.Lay
import Derived.LaidLaws
set_option linter.unusedVariables false
set_option linter.unusedSimpArgs false
namespace Go.Proofs.YtdchgbmliojoiaaGreatDoor
section
open Go.ChangeShapes Go.WideShapes Go.ChangeAt Go.RowKit
theorem own:ownKnob Tryz.prog.godebug=none:=by kernel_rfl
theorem Wl:laidOutB Tryz.prog=true:=by kernel_rfl
theorem Tryz.et:Tryz.prog.globalNamed "errors.errorType" =some 0:=by kernel_rfl
theorem Tryz.rt:(Tryz.prog.cutTypes.find? (·.1== "internal/reflectlite.rtype")).map (·.2)=some 206:=by kernel_rfl
theorem Tryz.oneRow:((List.range 611).filter fun t=>Tryz.prog.rowNamed t [101,114,114,111,114])=[41]:=by kernel_rfl
theorem Tryz.size:Tryz.prog.types.size=611:=by kernel_rfl
theorem ZB {W:World} {l:List (String×DataW Unit)} (h:handlesMet Tryz.prog l W) (hm:("errors.errorType",Rows.laid_errors_errorType)∈l):W.cell? (pK 0 0)=some (.iface 206 (.agg #[pq 6 41])):=by
 obtain ⟨name,u,ty,e1,e2,e3,e4,e5⟩:=h _ hm
 have en:name=[101,114,114,111,114]:=(zr e1).symm
 subst en
 obtain rfl:=zr (Tryz.rt.symm.trans e2)
 have hm:ty∈(List.range 611).filter fun t=>Tryz.prog.rowNamed t [101,114,114,111,114]:=List.mem_filter.2 ⟨zg.2 (by rw [<-Tryz.size];exact e3),e4⟩
 rw [Tryz.oneRow] at hm
 obtain rfl:=List.mem_singleton.1 hm
 have hh:typeHandle Tryz.prog 41= pq 6 41:=by kernel_rfl
 rw [hh] at e5
 simpa using World.var?_cell Tryz.et e5 0
end
section
open Go Go.ChangeShapes Go.WideShapes Go.ChangeAt Go.RowKit Go.Deep
theorem V9:Tryz.prog.cellsOf 5=1:=by kernel_rfl
theorem OQ:Tryz.prog.cellsOf 46=3:=by kernel_rfl
theorem ZC:Tryz.prog.cellsOf 9=1:=by kernel_rfl
theorem WA:Tryz.prog.cellsOf 4=1:=by kernel_rfl
theorem WB:Tryz.prog.cellsOf 32=1:=by kernel_rfl
theorem QD:Tryz.prog.cellsOf 3=1:=by kernel_rfl
theorem WC:Tryz.prog.cellsOf 23=5:=by kernel_rfl
theorem UG:Tryz.prog.cellsOf 24=1:=by kernel_rfl
theorem PG:Tryz.prog.cellsOf 26=6:=by kernel_rfl
theorem WD:Tryz.prog.bytesOf 5=1:=by kernel_rfl
theorem WE:Tryz.prog.bytesOf 46=48:=by kernel_rfl
theorem WF {α:Type} {cs:List α} (h:cs.length=3):∃a b c,cs=[a,b,c]:=by
 match cs,h with
 |[a,b,c],_=>exact ⟨a,b,c,rfl⟩
theorem fT {α:Type} {cs:List α} (h:cs.length=5):∃a b c d e,cs=[a,b,c,d,e]:=by
 match cs,h with
 |[a,b,c,d,e],_=>exact ⟨a,b,c,d,e,rfl⟩
theorem fU {α:Type} {cs:List α} (h:cs.length=6):∃a b c d e f,cs=[a,b,c,d,e,f]:=by
 match cs,h with
 |[a,b,c,d,e,f],_=>exact ⟨a,b,c,d,e,f,rfl⟩
theorem ME {H:Type} {P:Program} {t:TypeId} {fs:Array Field} {ds:List (DataW H)} (hu:P.underlying t=some (.struct fs)):(DataW.agg ds).weights P t=DataW.weightsEach P (fs.toList.map (·.type)) ds:=by
 rw [DataW.weights,hu]
theorem Gv {H:Type} {P:Program} {t e:TypeId} {ds ss:List (DataW H)} (hu:P.underlying t=some (.slice e)):(DataW.slice ds ss).weights P t=(ds.length+ss.length)*P.bytesOf e::(DataW.weightsAll P e ds++DataW.weightsAll P e ss):=by
 rw [DataW.weights,hu]
theorem I9 {H:Type} {P:Program} {e:TypeId}:∀{ds:List (DataW H)} {d:DataW H},d∈ds->∀n∈d.weights P e,n∈DataW.weightsAll P e ds
 |d0::r,d,hd,n,hn=>by
  rw [DataW.weightsAll]
  rcases List.mem_cons.1 hd with rfl|hd
  ·exact yt _ hn
  ·exact List.mem_append_right _ (I9 hd n hn)
 |[],_,hd,_,_=>by cases hd
structure Ri (W:World) (cs:List Value) (f:AV) (l:BN):Prop where
 cells:cs=[.string f.path,.bool f.dir,.slice l.a f.bytes.length l.c]
 loc:0<f.bytes.length->l.a=some (pK l.q l.o)/\l.q<W.heap.size
 view:BC W l.q l.o f.bytes
 byte:AY f.bytes
 psize:f.path.size<=140737488355328
 bsize:f.bytes.length<=140737488355328
theorem Rj {zs:List Int} {len:Nat} (hl:len<=zs.length) (hws:∀n∈zs,(Lit.int .u8 n).wf=true):AY (zs.take len):=by
 intro j
 by_cases hj:j<len
 ·have hz2:(zs.take len).getD j 0∈zs:=by
   have:(zs.take len).getD j 0=zs[j]'(by omega):=by simp [List.getD,hj,zz (show j<zs.length by omega)]
   rw [this];exact List.getElem_mem _
  exact bounds_u8 (hws _ hz2)
 ·rw [List.getD,yz (by rw [yv];omega)]
  exact ⟨Int.le_refl 0,by decide⟩
theorem WG {H:Type} {enc:TypeId×Value->H} {W:World} {fuel:Nat} {v:Value} {x:DataW H×List MemPlace}
  (h:DataW.trod enc Tryz.prog W 0 (fun _=>true) true fuel 32 [v]=some x) (hw:∀n∈x.1.weights Tryz.prog 32,n<=reachBytes):
  ∃(B:List Int) (l:BN),v= .slice l.a B.length l.c/\(0<B.length->l.a=some (pK l.q l.o)/\l.q<W.heap.size)/\BC W l.q l.o B/\AY B/\B.length<=140737488355328:=by
 rcases open_ints Tryz.underlying32 Tryz.underlying5 V9 h with ⟨hcs,hx⟩|⟨a,len,c,zs,hcs,hbase,hl,hm,hz,hx,hcell,hws⟩
 ·simp only [List.cons.injEq,and_true] at hcs
  subst hcs
  exact ⟨[],⟨none,0,0,0⟩,rfl,fun q=>by simp at q,fun j hj=>by simp at hj,fun j=>by simp,by simp⟩
 ·simp only [List.cons.injEq,and_true] at hcs
  subst hcs
  simp only [if_true] at hz
  have hsz:len<=reachBytes:=by
   rw [hx] at hw
   have:=hw ((lits .u8 (zs.take len)).length+(lits .u8 (zs.drop len)).length) (by
    rw [Gv Tryz.underlying32,WD,Nat.mul_one]
    exact yr ..)
   have e:(lits .u8 (zs.take len):List (DataW H)).length=len:=by simp [lits];omega
   omega
  have htl:(zs.take len).length=len:=by rw [yv];omega
  have hsz':len<=140737488355328:=zh hsz (by decide)
  by_cases h0:len=0
  ·subst h0
   exact ⟨[],⟨some a,0,0,c⟩,rfl,fun q=>by simp at q,fun j hj=>by simp at hj,fun j=>by simp,by simp⟩
  obtain ⟨b,off,spot⟩:=a
  have hc0:=hcell 0 (by omega)
  have hspot:spot=none:=by simpa [Addr.add] using World.cell?_spot hc0
  subst hspot
  have hbw:b<W.heap.size:=by have:=zu W _ hc0;rwa [CN] at this
  refine ⟨zs.take len,⟨some (pK b off),b,off,c⟩,by rw [htl],fun _=>⟨rfl,hbw⟩,fun i hi=> ?_,Rj (by omega) hws,by omega⟩
  rw [htl] at hi
  have:=hcell i (by omega)
  rw [CN] at this
  rw [this]
  simp [List.getD,hi]
theorem ZD {H:Type} {enc:TypeId×Value->H} {W:World} {fuel:Nat} {cs:List Value} {x:DataW H×List MemPlace}
  (h:DataW.trod enc Tryz.prog W 0 (fun _=>true) true fuel 46 cs=some x) (hw:∀n∈x.1.weights Tryz.prog 46,n<=reachBytes):
  ∃f l,Ri W cs f l:=by
 obtain ⟨y0,y1,y2,n,rfl,hl,h0,h1,h2⟩:=trod_struct3 Tryz.underlying46 h
 rw [OQ] at hl
 obtain ⟨v0,v1,v2,rfl⟩:=WF hl
 have hw2:∀n∈DataW.weightsEach Tryz.prog [9,4,32] [y0.1,y1.1,y2.1],n<=reachBytes:=fun n hn=>hw n (by rw [ME Tryz.underlying46];exact hn)
 clear hw
 change DataW.trod enc Tryz.prog W 0 _ true n 9 (List.take (Tryz.prog.cellsOf 9) (List.drop 0 [v0,v1,v2]))=some y0 at h0
 change DataW.trod enc Tryz.prog W 0 _ true n 4 (List.take (Tryz.prog.cellsOf 4) (List.drop 1 [v0,v1,v2]))=some y1 at h1
 change DataW.trod enc Tryz.prog W 0 _ true n 32 (List.take (Tryz.prog.cellsOf 32) (List.drop 2 [v0,v1,v2]))=some y2 at h2
 rw [ZC] at h0
 rw [WA] at h1
 rw [WB] at h2
 obtain ⟨s,f0,g0,_⟩:=DataW.trod_string Tryz.underlying9 (show DataW.trod _ _ _ _ _ _ n 9 [v0]=some y0 from h0)
 obtain ⟨d,f1,g1⟩:=DataW.trod_bool Tryz.underlying4 (show DataW.trod _ _ _ _ _ _ n 4 [v1]=some y1 from h1)
 subst g0 g1
 simp only [List.cons.injEq,and_true] at f0 f1
 subst f0 f1
 obtain ⟨B,l,rfl,b1,b2,b3,b4⟩:=WG (show DataW.trod _ _ _ _ _ _ n 32 [v2]=some y2 from h2) (fun n hn=>hw2 n (DataW.weights_mem_each (j:=2) rfl rfl n hn))
 refine ⟨⟨s,d,B⟩,l,rfl,b1,b2,b3,?_,b4⟩
 have hs:s.data.toList.length<=reachBytes:=hw2 _ (DataW.weights_mem_each (j:=0) rfl rfl _ (by rw [DataW.weights];exact yr ..))
 have e:s.data.toList.length=s.size:=xu
 rw [e] at hs
 exact zh hs (by decide)
structure MF (W:World) (cs:List Value) (lp lf lo li lb:Int) (fa:Option Addr) (fb foff fcap:Nat) (FZ:List AV) (LS:List BN):Prop where
 cells:cs=[.int .i64 lp,.int .i64 lf,.int .i64 lo,.int .i64 li,.int .i64 lb,.slice fa FZ.length fcap]
 at_:0<FZ.length->fa=some (pK fb foff)/\fb<W.heap.size
 files:Cz W fb foff FZ LS
 each:∀f∈FZ,f.path.size<=140737488355328/\f.bytes.length<=140737488355328
 len:FZ.length<=140737488355328
 byte:∀f∈FZ,AY f.bytes
theorem WH {H:Type} {enc:TypeId×Value->H} {W:World} {fuel:Nat} {v:Value} {x:DataW H×List MemPlace}
  (h:DataW.trod enc Tryz.prog W 0 (fun _=>true) true fuel 24 [v]=some x) (hw:∀n∈x.1.weights Tryz.prog 24,n<=reachBytes):
  ∃fa fb foff fcap FZ LS,v= .slice fa FZ.length fcap/\(0<FZ.length->fa=some (pK fb foff)/\fb<W.heap.size)/\Cz W fb foff FZ LS/\(∀f∈FZ,f.path.size<=140737488355328/\f.bytes.length<=140737488355328)/\FZ.length<=140737488355328/\∀f∈FZ,AY f.bytes:=by
 rcases open_slice Tryz.underlying24 h with ⟨hcs,hx⟩|⟨a,len,cap,m,n,D,Pl,hcs,hb,hl,hm,hmm,rfl,hx⟩
 ·simp only [List.cons.injEq,and_true] at hcs
  subst hcs
  exact ⟨none,0,0,0,[],[],rfl,fun q=>by simp at q,⟨rfl,fun i f l hi _=>by simp at hi⟩,fun f hf=>by simp at hf,by simp,fun f hf=>by simp at hf⟩
 simp only [List.cons.injEq,and_true] at hcs
 subst hcs
 simp only [if_true] at hmm
 subst hmm
 have hws:∀i,i<len->∀k∈(D i).weights Tryz.prog 46,k<=reachBytes:=fun i hi k hk=>hw k (by
  rw [Gv Tryz.underlying24]
  exact List.mem_cons_of_mem _ (yt _ (I9 (yw.2 ⟨i,zg.2 hi,rfl⟩) k hk)))
 have hlen:len<=140737488355328:=by
  have:=hw ((((List.range len).map D).length+((List.range (m-len)).map fun j=>D (len+j)).length)*48) (by
   rw [Gv Tryz.underlying24,WE]
   exact yr ..)
  have h2:reachBytes=140737488351232:=by decide
  simp only [zc,List.length_range] at this
  omega
 by_cases h0:len=0
 ·subst h0
  exact ⟨some a,0,0,m,[],[],rfl,fun q=>by simp at q,⟨rfl,fun i f l hi _=>by simp at hi⟩,fun f hf=>by simp at hf,by simp,fun f hf=>by simp at hf⟩
 rw [OQ] at hx
 haveI hinh:Inhabited (AV×BN):=⟨(⟨ByteArray.empty,false,[]⟩,⟨none,0,0,0⟩)⟩
 obtain ⟨V,hV⟩:=choose_lt (α:=AV×BN) (n:=len) (p:=fun i z=>∃cs',W.cells? 0 (a.add (i*3)) 3=some cs'/\Ri W cs' z.1 z.2) (fun i hi=>by
  obtain ⟨cs',h1,h2⟩:=hx i (by omega)
  obtain ⟨f,l,hf⟩:=ZD h2 (hws i hi)
  exact ⟨(f,l),cs',h1,hf⟩)
 obtain ⟨b,off,spot⟩:=a
 have hcell:∀i,i<len->∀j u,[Value.string (V i).1.path,.bool (V i).1.dir,.slice (V i).2.a (V i).1.bytes.length (V i).2.c][j]? =some u->W.cell? (((⟨b,off,spot⟩:Addr).add (i*3)).add j)=some u:=fun i hi j u hu=>by
  obtain ⟨cs',h1,h2⟩:=hV i hi
  obtain ⟨_,hl3,hc⟩:=World.cells?_some h1
  have hj:j<3:=by simpa using (zy.1 hu).1
  rw [hc j hj,h2.cells]
  exact hu
 have hc0:=hcell 0 (by omega) 0 _ rfl
 have hspot:spot=none:=by simpa [Addr.add] using World.cell?_spot hc0
 subst hspot
 have hbw:b<W.heap.size:=by have:=zu W _ hc0;rwa [CN,CN] at this
 have hget:∀(i:Nat) (f:AV),((List.range len).map fun i=>(V i).1)[i]? =some f->i<len/\f=(V i).1:=fun i f hf=>by
  rw [ze] at hf
  by_cases hi:i<len
  ·rw [xx hi] at hf
   exact ⟨hi,by simpa using hf.symm⟩
  ·rw [yz (by simp;omega)] at hf
   cases hf
 have hone:∀f∈(List.range len).map (fun i=>(V i).1),∃cs l,Ri W cs f l:=fun f hf=>by
  obtain ⟨i,hi,rfl⟩:=yw.1 hf
  obtain ⟨cs',_,h2⟩:=hV i (zg.1 hi)
  exact ⟨cs',_,h2⟩
 refine ⟨some (pK b off),b,off,m,(List.range len).map (fun i=>(V i).1),(List.range len).map (fun i=>(V i).2),by rw [zc,List.length_range],fun _=>⟨rfl,hbw⟩,⟨by simp,fun i f l hf hl2=> ?_⟩,fun f hf=> ?_,by simpa using hlen,fun f hf=> ?_⟩
 ·obtain ⟨hi,rfl⟩:=hget i f hf
  have hl3:l=(V i).2:=by
   rw [ze,xx hi] at hl2
   simpa using hl2.symm
  subst hl3
  obtain ⟨cs',_,h2⟩:=hV i hi
  have c0:=hcell i hi 0 _ rfl
  have c1:=hcell i hi 1 _ rfl
  have c2:=hcell i hi 2 _ rfl
  rw [CN,CN] at c0 c1 c2
  exact ⟨c0,c1,c2,h2.loc,h2.view⟩
 ·obtain ⟨_,_,h2⟩:=hone f hf
  exact ⟨h2.psize,h2.bsize⟩
 ·obtain ⟨_,_,h2⟩:=hone f hf
  exact h2.byte
theorem Rk {H:Type} {enc:TypeId×Value->H} {W:World} {fuel:Nat} {cs:List Value} {x:DataW H×List MemPlace}
  (h:DataW.trod enc Tryz.prog W 0 (fun _=>true) true fuel 26 cs=some x) (hw:∀n∈x.1.weights Tryz.prog 26,n<=reachBytes):
  ∃lp lf lo li lb fa fb foff fcap FZ LS,MF W cs lp lf lo li lb fa fb foff fcap FZ LS:=by
 obtain ⟨y0,y1,n,rfl,hl,h0,h1⟩:=trod_struct2 Tryz.underlying26 h
 rw [PG] at hl
 obtain ⟨v0,v1,v2,v3,v4,v5,rfl⟩:=fU hl
 have hw2:∀n∈DataW.weightsEach Tryz.prog [23,24] [y0.1,y1.1],n<=reachBytes:=fun n hn=>hw n (by rw [ME Tryz.underlying26];exact hn)
 clear hw
 change DataW.trod enc Tryz.prog W 0 _ true n 23 (List.take (Tryz.prog.cellsOf 23) (List.drop 0 [v0,v1,v2,v3,v4,v5]))=some y0 at h0
 change DataW.trod enc Tryz.prog W 0 _ true n 24 (List.take (Tryz.prog.cellsOf 24) (List.drop 5 [v0,v1,v2,v3,v4,v5]))=some y1 at h1
 rw [WC] at h0
 rw [UG] at h1
 have h0':DataW.trod enc Tryz.prog W 0 (fun _=>true) true n 23 [v0,v1,v2,v3,v4]=some y0:=h0
 obtain ⟨xs,k,rfl,hx,hl5,hxl,hel⟩:=DataW.trod_struct Tryz.underlying23 h0'
 obtain ⟨x0,x1,x2,x3,x4,rfl⟩:=fT (show xs.length=5 from hxl)
 have e0:=hel 0 _ rfl
 have e1:=hel 1 _ rfl
 have e2:=hel 2 _ rfl
 have e3:=hel 3 _ rfl
 have e4:=hel 4 _ rfl
 change DataW.trod enc Tryz.prog W 0 _ true k 3 (List.take (Tryz.prog.cellsOf 3) (List.drop 0 [v0,v1,v2,v3,v4]))=some x0 at e0
 change DataW.trod enc Tryz.prog W 0 _ true k 3 (List.take (Tryz.prog.cellsOf 3) (List.drop 1 [v0,v1,v2,v3,v4]))=some x1 at e1
 change DataW.trod enc Tryz.prog W 0 _ true k 3 (List.take (Tryz.prog.cellsOf 3) (List.drop 2 [v0,v1,v2,v3,v4]))=some x2 at e2
 change DataW.trod enc Tryz.prog W 0 _ true k 3 (List.take (Tryz.prog.cellsOf 3) (List.drop 3 [v0,v1,v2,v3,v4]))=some x3 at e3
 change DataW.trod enc Tryz.prog W 0 _ true k 3 (List.take (Tryz.prog.cellsOf 3) (List.drop 4 [v0,v1,v2,v3,v4]))=some x4 at e4
 rw [QD] at e0 e1 e2 e3 e4
 obtain ⟨n0,f0,g0,_⟩:=DataW.trod_int Tryz.underlying3 (show DataW.trod _ _ _ _ _ _ k 3 [v0]=some x0 from e0)
 obtain ⟨n1,f1,g1,_⟩:=DataW.trod_int Tryz.underlying3 (show DataW.trod _ _ _ _ _ _ k 3 [v1]=some x1 from e1)
 obtain ⟨n2,f2,g2,_⟩:=DataW.trod_int Tryz.underlying3 (show DataW.trod _ _ _ _ _ _ k 3 [v2]=some x2 from e2)
 obtain ⟨n3,f3,g3,_⟩:=DataW.trod_int Tryz.underlying3 (show DataW.trod _ _ _ _ _ _ k 3 [v3]=some x3 from e3)
 obtain ⟨n4,f4,g4,_⟩:=DataW.trod_int Tryz.underlying3 (show DataW.trod _ _ _ _ _ _ k 3 [v4]=some x4 from e4)
 simp only [List.cons.injEq,and_true] at f0 f1 f2 f3 f4
 subst f0 f1 f2 f3 f4
 obtain ⟨fa,fb,foff,fcap,FZ,LS,rfl,b1,b2,b3,b4,b5⟩:=WH (show DataW.trod _ _ _ _ _ _ (k+1) 24 [v5]=some y1 from h1) (fun n hn=>hw2 n (DataW.weights_mem_each (j:=1) rfl rfl n hn))
 exact ⟨n0,n1,n2,n3,n4,fa,fb,foff,fcap,FZ,LS,rfl,b1,b2,b3,b4,b5⟩
end
section
open Go Go.ChangeShapes Go.WideShapes Go.ChangeAt Go.RowKit
theorem MG:Tryz.prog.cellsOf 324=3:=by kernel_rfl
theorem ZE:Tryz.prog.cellsOf 75=1:=by kernel_rfl
theorem Tryz.hf:Tryz.prog.globalNamed "tinyos/exe.headerFields" =some 1:=by kernel_rfl
theorem Tryz.hfType:(Tryz.prog.globals[1]?).map (·.type)=some 325:=by kernel_rfl
theorem Eo {W:World} {fuel:Nat} {cs:List Value} {a b c:Int} {p:List MemPlace}
  (h:DataW.trod (fun _=>()) Tryz.prog W 0 (fun _=>true) false fuel 324 cs=some (.agg [.lit (.int .i64 a),.lit (.int .i64 b),.lit (.int .u64 c)],p)):cs=[.int .i64 a,.int .i64 b,.int .u64 c]:=by
 obtain ⟨xs,n,rfl,hx,hl,hxl,hel⟩:=DataW.trod_struct Tryz.underlying324 h
 have hl3:cs.length=3:=hl.trans MG
 have hx3:xs.length=3:=hxl
 clear hl hxl
 obtain ⟨v0,v1,v2,rfl⟩:=WF hl3
 obtain ⟨x0,x1,x2,rfl⟩:=WF hx3
 have h0:=hel 0 _ rfl
 have h1:=hel 1 _ rfl
 have h2:=hel 2 _ rfl
 simp only [Prod.mk.injEq,DataW.agg.injEq] at hx
 obtain ⟨hx,_⟩:=hx
 simp only [List.map_cons,List.map_nil,List.cons.injEq,and_true] at hx
 obtain ⟨e0,e1,e2⟩:=hx
 change DataW.trod _ Tryz.prog W 0 _ false n 3 (List.take (Tryz.prog.cellsOf 3) (List.drop 0 [v0,v1,v2]))=some x0 at h0
 change DataW.trod _ Tryz.prog W 0 _ false n 3 (List.take (Tryz.prog.cellsOf 3) (List.drop 1 [v0,v1,v2]))=some x1 at h1
 change DataW.trod _ Tryz.prog W 0 _ false n 75 (List.take (Tryz.prog.cellsOf 75) (List.drop 2 [v0,v1,v2]))=some x2 at h2
 rw [QD] at h0 h1
 rw [ZE] at h2
 obtain ⟨n0,f0,g0,_⟩:=DataW.trod_int Tryz.underlying3 (show DataW.trod _ _ _ _ _ _ n 3 [v0]=some x0 from h0)
 obtain ⟨n1,f1,g1,_⟩:=DataW.trod_int Tryz.underlying3 (show DataW.trod _ _ _ _ _ _ n 3 [v1]=some x1 from h1)
 obtain ⟨n2,f2,g2,_⟩:=DataW.trod_int Tryz.underlying75 (show DataW.trod _ _ _ _ _ _ n 75 [v2]=some x2 from h2)
 subst g0 g1 g2
 simp only [DataW.lit.injEq,Lit.int.injEq,true_and,List.cons.injEq,and_true] at e0 e1 e2 f0 f1 f2
 rw [f0,f1,f2,e0,e1,e2]
theorem GD {cs:List Value} {k:Nat} {a b c:Value} (h:(cs.drop k).take 3=[a,b,c]):cs[k]? =some a/\cs[k+1]? =some b/\cs[k+2]? =some c:=by
 have g:∀r,r<3->cs[k+r]? =[a,b,c][r]? :=fun r hr=>by
  rw [<-h,xy,if_pos hr,List.getElem?_drop]
 exact ⟨g 0 (by omega),g 1 (by omega),g 2 (by omega)⟩
def Cu:List (String×DataW Unit):=[("unicode/utf8.acceptRanges",Rows.laid_unicode_utf8_acceptRanges),("errors.errorType",Rows.laid_errors_errorType),("tinyos/exe.headerFields",Rows.laid_tinyos_exe_headerFields),("tinyos/kernel.parts",Rows.laid_tinyos_kernel_parts),("unicode/utf8.first",Rows.laid_unicode_utf8_first)]
def CU:List (String×DataW Unit):=[("unicode/utf8.acceptRanges",Rows.laid_unicode_utf8_acceptRanges),("tinyos/exe.headerFields",Rows.laid_tinyos_exe_headerFields),("tinyos/kernel.parts",Rows.laid_tinyos_kernel_parts),("unicode/utf8.first",Rows.laid_unicode_utf8_first)]
theorem Hg:(Cu.filter fun x=>x.2.handleName?.isNone)=CU:=by kernel_rfl
theorem LQ:(Cu.filter fun x=>x.2.handleName?.isSome)=[("errors.errorType",Rows.laid_errors_errorType)]:=by kernel_rfl
theorem Jh {W:World} (h:laidMetH Tryz.prog Cu W):laidMet Tryz.prog CU W/\handlesMet Tryz.prog [("errors.errorType",Rows.laid_errors_errorType)] W:=by
 unfold laidMetH at h
 rw [LQ,Hg] at h
 exact h
theorem OR {W:World} (h:laidMetH Tryz.prog Cu W):W.cell? (pK 0 0)=some (.iface 206 (.agg #[pq 6 41])):=
 ZB (Jh h).2 (List.mem_singleton.2 rfl)
theorem PH {W:World} (h:laidMetH Tryz.prog Cu W):W.rangeAt 1 0 EU:=by
 obtain ⟨ps,hl0,_⟩:=(Jh h).1
 obtain ⟨_,_,_,_,_,_,_,_,_,_,hl,_⟩:=hl0
 obtain ⟨g,t,cs,fuel,p,q,hg,ht,hv,htr,_⟩:=hl
 obtain rfl:=zr (Tryz.hf.symm.trans hg)
 obtain rfl:=zr (Tryz.hfType.symm.trans ht)
 have hc:=World.var?_cell Tryz.hf hv
 obtain ⟨xs,m,rfl,hx,hlen,hxl,hel⟩:=DataW.trod_array Tryz.underlying325 htr
 unfold Rows.laid_tinyos_exe_headerFields at hx
 simp only [Prod.mk.injEq,DataW.agg.injEq] at hx
 obtain ⟨hx,_⟩:=hx
 match xs,hxl,hx,hel with
 |[x0,x1,x2,x3,x4,x5],_,hx,hel=>
  simp only [List.map_cons,List.map_nil,List.cons.injEq,and_true] at hx
  obtain ⟨e0,e1,e2,e3,e4,e5⟩:=hx
  rw [MG] at hel
  have k0:=hel 0 (by omega)
  have k1:=hel 1 (by omega)
  have k2:=hel 2 (by omega)
  have k3:=hel 3 (by omega)
  have k4:=hel 4 (by omega)
  have k5:=hel 5 (by omega)
  have d0:=GD (Eo (p:=x0.2) (k0.trans (by show some x0=_;rw [e0])))
  have d1:=GD (Eo (p:=x1.2) (k1.trans (by show some x1=_;rw [e1])))
  have d2:=GD (Eo (p:=x2.2) (k2.trans (by show some x2=_;rw [e2])))
  have d3:=GD (Eo (p:=x3.2) (k3.trans (by show some x3=_;rw [e3])))
  have d4:=GD (Eo (p:=x4.2) (k4.trans (by show some x4=_;rw [e4])))
  have d5:=GD (Eo (p:=x5.2) (k5.trans (by show some x5=_;rw [e5])))
  intro j v hj
  rw [zq,hc]
  have hl:cs[j]? =cs.toList[j]? :=by simp
  rw [hl]
  match j,hj with
  |0,hj=>exact d0.1.trans hj
  |1,hj=>exact d0.2.1.trans hj
  |2,hj=>exact d0.2.2.trans hj
  |3,hj=>exact d1.1.trans hj
  |4,hj=>exact d1.2.1.trans hj
  |5,hj=>exact d1.2.2.trans hj
  |6,hj=>exact d2.1.trans hj
  |7,hj=>exact d2.2.1.trans hj
  |8,hj=>exact d2.2.2.trans hj
  |9,hj=>exact d3.1.trans hj
  |10,hj=>exact d3.2.1.trans hj
  |11,hj=>exact d3.2.2.trans hj
  |12,hj=>exact d4.1.trans hj
  |13,hj=>exact d4.2.1.trans hj
  |14,hj=>exact d4.2.2.trans hj
  |15,hj=>exact d5.1.trans hj
  |16,hj=>exact d5.2.1.trans hj
  |17,hj=>exact d5.2.2.trans hj
  |(k+18),hj=>simp [EU] at hj
theorem Rl (os:Os):laidMet Tryz.prog CU ((World.doorLaid Tryz.prog 400 os).layVars Tryz.prog CU):=by
 have e1:(CU.filter fun x=>(CU.map (·.1)).contains x.1)=CU:=List.filter_eq_self.2 fun x hx=>List.contains_iff_mem.2 (yw.2 ⟨x,hx,rfl⟩)
 have e2:(CU.filter fun x=> !(CU.map (·.1)).contains x.1)=[]:=List.filter_eq_nil_iff.2 fun x hx=>by rw [List.contains_iff_mem.2 (yw.2 ⟨x,hx,rfl⟩)];simp
 exact laidMet_layVars (w0:=World.doorLaid Tryz.prog 400 os) (CU.map (·.1)) [] (by rw [e1]) (by rw [e1];kernel_rfl) (by rw [e1];kernel_rfl) (by rw [e2];exact LaidIn.none)
theorem Rm (os:Os) (args:Array Value):laidMetH Tryz.prog Cu (((World.doorLaid Tryz.prog 400 os).layVars Tryz.prog CU).forCall (fun _ _=>0) ⟨#[],args,[]⟩).memory:=
 laidMetH_of_parts3 (fuel:=8) (by rw [Hg];exact (Rl os).of_heap (by simp [World.memory,World.forCall,Input.heap])) (by kernel_rfl) (by kernel_rfl)
end
end Go.Proofs.YtdchgbmliojoiaaGreatDoor
