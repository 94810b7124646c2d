import Derived.Test.YtdchgbmliojoiaaGreatDoorG02
import Derived.Test.YtdchgbmliojoiaaGreatDoorG04
import Derived.Deep.OwnRows
set_option maxRecDepth 100000
set_option maxHeartbeats 1000000
set_option linter.unusedVariables false
set_option linter.unusedSimpArgs false
namespace Go.Proofs.YtdchgbmliojoiaaGreatDoor
open Go.RowKit
theorem Ms (aa ab:Option Addr) (ga oa ca gb ob cb:Nat) (B:List Int) (w:World) (ha:0<B.length->aa=some (pK ga oa)) (hb:0<B.length->ab=some (pK gb ob))
  (hA:BC w ga oa B) (hB:BC w gb ob B) (hn:B.length<=1000000):
  Calls Tryz.prog 28 #[.slice aa B.length ca,.slice ab B.length cb] w fun e w'=>e= .returned (.bool true)/\w'.heap=w.heap/\Below w.heap.size w w':=by
 have HA:=AC hA
 have HB:=AC hB
 have HA1:=AC ha
 have HB1:=AC hb
 clear hA hB ha hb
 go_enter Tryz.func28,Tryz.ntmps28
 go_wp2
 go_loopw [5] (fun i wr=>∃k:Nat,k<=B.length/\i= .int .i64 k/\wr.heap=w.heap/\Below w.heap.size w wr) (fun i _=>B.length-(intOf i).toNat)
 case atStart=>exact ⟨0,by omega,rfl,rfl,zw _ _⟩
 case round=>
  obtain ⟨k,hk,rfl,hh,hbl⟩:=hrel
  have HH:=AC hh
  have HBL:=AC hbl
  clear hh hbl
  by_cases hlt:k<B.length
  ·have e1:=(AB HA1) (by omega)
   have e2:=(AB HB1) (by omega)
   subst e1 e2
   have hcells:∀a,wr.cell? a=w.cell? a:=fun a=>by unfold World.cell?;rw [AB HH]
   have c1:wr.cell? (pK ga (oa+k))=some (.int .u8 (B.getD k 0)):=by rw [hcells];exact (AB HA) k hlt
   have c2:wr.cell? (pK gb (ob+k))=some (.int .u8 (B.getD k 0)):=by rw [hcells];exact (AB HB) k hlt
   generalize B.getD k 0=x at c1 c2
   have hk0:(0:Int)<=(k:Int):=by omega
   have hk1:(k:Int)<(B.length:Int):=by omega
   clear hcells
   go_wp2
   go_quiet (fail)
   go_wp2
   go_roundw
   case rel=>exact ⟨k+1,by omega,by go_num,AB HH,⟨(AB HBL).os,(AB HBL).tape,(AB HBL).output,(AB HBL).size,(AB HBL).block⟩⟩
   case measure=>simp [intOf];omega
  ·go_wp2
   go_ret
   exact ⟨rfl,AB HH,AB HBL⟩
theorem Mt:(Tryz.prog.info? 5).map (fun i=>(i.zero,i.size,i.bytes))=some (some (.int .u8 0),1,1):=by kernel_rfl
theorem Le:(Tryz.prog.info? 5).map (·.size)=some 1:=by kernel_rfl
def Bx (n:Nat):Array Value:=(AJ (List.replicate n 0)).toArray
theorem GF (n:Nat):madeCells #[.int .u8 0] n=Bx n:=by
 unfold madeCells Bx AJ
 apply Array.ext
 ·simp
 ·intro i h1 h2
  simp [Nat.mod_one]
theorem XR (B:List Int):((splice (List.replicate (B.length+2) 0) 0 B).set B.length 71).set (B.length+1) 72=B++[71,72]:=by
 have e:splice (List.replicate (B.length+2) 0) 0 B=B++[0,0]:=by
  unfold splice
  rw [List.drop_replicate,show B.length+2-(0+B.length)=2 from by omega]
  rfl
 rw [e,List.set_append_right _ _ (zx _),List.set_append_right _ _ (by omega)]
 simp
theorem DM (L:List Int):∀v∈AJ L,v.oneCell'=true:=by
 intro v hv
 obtain ⟨x,_,rfl⟩:=yw.1 hv
 rfl
theorem CN (b o j:Nat):((pK b o):Addr).add j=(pK b (o+j)):=by unfold Addr.add;split<;>simp_all
theorem XS (a:Option Addr) (b off cap:Nat) (B:List Int) (w:World) (ha:0<B.length->a=some (pK b off)) (hv:BC w b off B) (hbw:0<B.length->b<w.heap.size) (hn:B.length<=1000000):
  Calls Tryz.prog 16 #[.slice a B.length cap] w fun e w'=>e= .returned (.slice (some (pK w.heap.size 0)) B.length (B.length+2))/\AG w' w.heap.size 5 (AJ (B++[71,72]))/\Below w.heap.size w w':=by
 have HA:=AC ha
 have HV:=AC hv
 have HBW:=AC hbw
 have hmk:∀w,(Instr.makeSlice 32 (.int .i64 ((B.length:Int)+2)) (.int .i64 ((B.length:Int)+2))).run Tryz.prog w= .ok (.slice (some (pK w.heap.size 0)) (B.length+2) (B.length+2)) (w.alloc (.cells (Bx (B.length+2)) 5)):=by
  intro w
  have:=run_make_row' (P:=Tryz.prog) 32 5 (.int .u8 0) 1 Tryz.underlying32 Mt rfl .i64 .i64 (B.length+2) (by omega) (by omega) w
  rwa [show (((B.length+2:Nat)):Int)=(B.length:Int)+2 from by omega,GF] at this
 have hsrc:0<(AJ B).length->(some (pK w.heap.size 0):Option Addr)=some (pK w.heap.size 0)/\∃ad,a=some ad/\∀j v,(AJ B)[j]? =some v->(w.alloc (.cells (Bx (B.length+2)) 5)).cell? (ad.add j)=some v:=by
  intro h0
  rw [AM] at h0
  refine ⟨rfl,(pK b off),ha h0,fun j v hj=> ?_⟩
  have hl:=(zy.1 hj).1
  rw [AM] at hl
  rw [AT _ _ hl] at hj
  rw [CN,Below.cell ((zw _ w).alloc (zx _) _) (p:=(pK b (off+j))) (hbw h0),hv j hl]
  exact hj
 have HSRC:=AC hsrc
 clear ha hv hbw hsrc
 go_enter Tryz.func16,Tryz.ntmps16
 go_wp2_with (
        refine wpList_copy_splice rfl _ _ 32 32 rfl 5 Tryz.underlying32 Le (some (pK w.heap.size 0)) a (B.length+2) (B.length+2) B.length cap rfl rfl w.heap.size 0 (AJ (List.replicate (B.length+2) 0)) 5 (AG.new _ _ _) (AJ B) (by rw [AM];simp only [Nat.min_def];split<;>omega) (AB HSRC) (by rw [AM,AM];simp) (DM _) w.heap.size w ((zw _ _).alloc (zx _) _) (zx _) ?_
        intro w1 H1 hb1
        have hh:AG w1 w.heap.size 5 (AJ (splice (List.replicate (B.length+2) 0) 0 B)):=by
         rw [<-B4];exact AB H1
        have hl:(splice (List.replicate (B.length+2) 0) 0 B).length=B.length+2:=by rw [BE _ _ _ (by simp)];simp
        have HRR:=AC (XR B)
        generalize splice (List.replicate (B.length+2) 0) 0 B=R at hh hl HRR
        have c1:=hh.cell (AT R B.length (by omega))
        have f1:=hh.frozen B.length
        have hh2:=hh.set B.length (.int .u8 71)
        have c2:(w1.setCell (pK w.heap.size B.length) (.int .u8 71)).cell? (pK w.heap.size (B.length+1))=some (.int .u8 ((R.set B.length 71).getD (B.length+1) 0)):=hh2.cell (by rw [Co];exact AT _ _ (by rw [yx];omega))
        have f2:=hh2.frozen (B.length+1)
        have hh3:=hh2.set (B.length+1) (.int .u8 72)
        rw [Co,Co,AB HRR] at hh3
        have hb3:=(hb1.setCell (p:=(pK w.heap.size B.length)) (zx _) (.int .u8 71)).setCell (p:=(pK w.heap.size (B.length+1))) (zx _) (.int .u8 72)
        have HH3:=AC hh3
        have HB3:=AC hb3
        generalize R.getD B.length 0=x1 at c1
        generalize (R.set B.length 71).getD (B.length+1) 0=x2 at c2
        clear hh hh2 hh3 hb3 H1 hb1 hl HRR
        have k1:(B.length:Int)<(B.length:Int)+2:=by omega)
 go_ret
 exact ⟨rfl,AB HH3,AB HB3⟩
theorem UX {w wr:World} {g:Nat} {t:TypeId} {L:List Int} {n:Nat} (h:AG wr g t (AJ L)) (hL:L.length=n) (hr:w.grownBy wr (some g)) (k:Nat) (y:Int):
  ∃L:List Int,L.length=n/\AG (wr.setCell (pK g k) (.int .u8 y)) g t (AJ L)/\w.grownBy (wr.setCell (pK g k) (.int .u8 y)) (some g):=
 ⟨L.set k y,by rw [yx];exact hL,by rw [<-Co];exact h.set k _,AS hr _ _⟩
theorem XT (g:Nat) (a:Option Addr) (b off cap:Nat) (B:List Int) (w:World) (hg:AG w g 5 (AJ (B++[71,72]))) (ha:0<B.length->a=some (pK b off)) (hv:BC w b off B) (hn:B.length<=1000000):
  Calls Tryz.prog 17 #[.slice (some (pK g 0)) B.length (B.length+2),.slice a B.length cap] w fun e w'=>e= .returned (.bool true)/\w.grownBy w' (some g):=by
 have hA:BC w g 0 B:=fun j hj=>by
  rw [zq]
  refine hg.cell ?_
  rw [AT _ _ (by simp;omega)]
  simp [List.getD,zp hj]
 have HS:=AC (Ms (some (pK g 0)) a g 0 (B.length+2) b off cap B w (fun _=>rfl) ha hA hv hn)
 have HG:=AC hg
 clear hA hg ha hv
 go_enter Tryz.func17,Tryz.ntmps17
 go_wp2_with fail
 refine (AB HS).mono ?_
 rintro e w1 ⟨rfl,hh1,hb1⟩
 have hg1:=(AB HG).heap hh1
 have c1:w1.cell? (pK g B.length)=some (.int .u8 71):=hg1.cell (by simp [AJ])
 have c2:w1.cell? (pK g (B.length+1))=some (.int .u8 72):=hg1.cell (by simp [AJ])
 have hgr:w.grownBy w1 (some g):=⟨hb1.os,hb1.tape,hb1.output,hb1.size,fun k hk _=>hb1.block k hk⟩
 have HG1:=AC hg1
 have HGR:=AC hgr
 clear hh1 hb1 hg1 hgr HS
 have k1:(B.length:Int)<(B.length:Int)+2:=by omega
 go_wp2
 go_loopw [8] (fun i wr=>∃k:Nat,k<=B.length+2/\i= .int .i64 k/\∃L:List Int,L.length=B.length+2/\AG wr g 5 (AJ L)/\w.grownBy wr (some g)) (fun i _=>B.length+2-(intOf i).toNat)
 case atStart=>exact ⟨0,by omega,rfl,B++[71,72],by simp,AB HG1,AB HGR⟩
 case round=>
  obtain ⟨k,hk,rfl,L,hL,hh,hgr⟩:=hrel
  have HH:=AC hh
  have HR:=AC hgr
  clear c1 c2
  by_cases hlt:k<B.length+2
  ·have c1:=hh.cell (AT L k (by omega))
   have f1:=hh.frozen k
   generalize L.getD k 0=x at c1
   have hk0:(0:Int)<=(k:Int):=by omega
   have hk1:(k:Int)<(B.length:Int)+2:=by omega
   clear hh hgr
   go_wp2
   go_roundw
   case rel=>exact ⟨k+1,by omega,by go_num,UX (AB HH) hL (AB HR) k _⟩
   case measure=>simp [intOf];omega
  ·clear hh hgr
   have hk1:¬(k:Int)<(B.length:Int)+2:=by omega
   go_wp2
   go_ret
   exact ⟨rfl,AB HR⟩
theorem EG (n:Int) (h0:0<=n) (h1:n<1000000):IntKind.i64.wrap n=n:=by
 simp [IntKind.wrap,IntKind.bits,IntKind.signed];split<;>omega
theorem cU:(Tryz.prog.info? 75).map (fun i=>(i.zero,i.size,i.bytes))=some (some (.int .u64 0),1,8):=by kernel_rfl
theorem Jo:(Tryz.prog.info? 5).map (·.size)=some 1:=by kernel_rfl
def FJ (n:Nat):Array Value:=(Cw (List.replicate n 0)).toArray
theorem Xa (n:Nat):madeCells #[.int .u64 0] n=FJ n:=by
 unfold madeCells FJ Cw
 apply Array.ext
 ·simp
 ·intro i h1 h2
  simp [Nat.mod_one]
theorem Od (n j:Nat) (h:j<n):(FJ n)[j]? =some (.int .u64 0):=by
 simp [FJ,Cw,h]
theorem Mx (n:Nat) (x:Int):(FJ (n+1)).setIfInBounds 0 (.int .u64 x)=(Cw (x::List.replicate n 0)).toArray:=by
 apply Array.ext'
 simp [FJ,Cw,List.replicate_succ]
theorem Pb {ss:List ByteArray} {k:Nat} (h:k<ss.length):room (ss.drop k)=splice (room (ss.drop (k+1))) (512-Bg (ss.drop k)) (Fu (ss.getD k ByteArray.empty)):=by
 rw [JC h,room]
theorem My {ss:List ByteArray} {k:Nat} (h:k<ss.length):Bg (ss.drop k)=(ss.getD k ByteArray.empty).size+1+Bg (ss.drop (k+1)):=by
 rw [JC h,Bg]
theorem Ig (s:ByteArray):Lib.byteCells s.data.toList=AJ (Fu s):=by
 simp [Lib.byteCells,AJ,Fu]
def CF (R:List Int):Nat->List Value
 |0=>Av 0 0 Aq++Av 0 0 Aq
 |1=>Av 254 6 (R.take 256)++Av 0 0 Aq
 |_=>Av 254 6 (R.take 256)++Av 255 6 (R.drop 256)
theorem CO (a b:Int) (L:List Int):(Av a b L).length=L.length+2:=by simp [Av,AM]
theorem Lf (pre Z post xs:List Value) (a b x y:Value) (hz:Z.length=xs.length):
  splice (((pre++(a::b::(Z++post))).set pre.length x).set (pre.length+1) y) (pre.length+2) xs=pre++(x::y::(xs++post)):=by
 have e1:(pre++(a::b::(Z++post))).set pre.length x=pre++(x::b::(Z++post)):=by
  rw [List.set_append_right _ _ (zx _)];simp
 have e2:(pre++(x::b::(Z++post))).set (pre.length+1) y=pre++(x::y::(Z++post)):=by
  rw [List.set_append_right _ _ (by omega)];simp
 rw [e1,e2]
 unfold splice
 have e3:(pre++(x::y::(Z++post))).take (pre.length+2)=pre++[x,y]:=by
  rw [List.take_append,yh (by omega)];simp
 have e4:(pre++(x::y::(Z++post))).drop (pre.length+2+xs.length)=post:=by
  rw [List.drop_append,List.drop_of_length_le (by omega),show pre.length+2+xs.length-pre.length=xs.length+2 from by omega]
  simp [<-hz]
 rw [e3,e4];simp
theorem SN (R:List Int) (hR:R.length=512):
  splice (((CF R 0).set 0 (.int .i64 254)).set 1 (.int .u8 6)) 2 (AJ (R.take 256))=CF R 1:=by
 have:=Lf [] (AJ Aq) (Av 0 0 Aq) (AJ (R.take 256)) (.int .i64 0) (.int .u8 0) (.int .i64 254) (.int .u8 6) (by rw [AM,AM,Ak];simp [hR])
 simpa [CF,Av] using this
theorem SO (R:List Int) (hR:R.length=512):
  splice (((CF R 1).set 258 (.int .i64 255)).set 259 (.int .u8 6)) 260 (AJ (R.drop 256))=CF R 2:=by
 have hl:(Av 254 6 (R.take 256)).length=258:=by rw [CO];simp [hR]
 have:=Lf (Av 254 6 (R.take 256)) (AJ Aq) [] (AJ (R.drop 256)) (.int .i64 0) (.int .u8 0) (.int .i64 255) (.int .u8 6) (by rw [AM,AM,Ak];simp [hR])
 rw [hl] at this
 simpa [CF,Av] using this
theorem Ih (R:List Int) (hR:R.length=512) (k:Nat):(CF R k).length=516:=by
 match k with
 |0=>simp only [CF,zn,CO,Ak]
 |1=>simp only [CF,zn,CO,Ak,yv,hR];rfl
 |(k+2)=>simp only [CF,zn,CO,yv,List.length_drop,hR];rfl
theorem Dj (L:List Int):∀v∈AJ L,v.oneCell'=true:=by
 intro v hv
 obtain ⟨x,_,rfl⟩:=yw.1 hv
 rfl
theorem Cc {ss:List ByteArray} (h:CZ ss=true):(Aa ss).length=512:=by
 have ht:Bg ss<=248:=by have:=Cr h 0;simpa using this
 have h8:=(Jk h).1
 have hl:=DH ss (by omega)
 rw [Aa,BE _ _ _ (by rw [EV,EN,hl,EE];omega),hl]
theorem fm {W:World} {g:Nat} {R:List Int} (h:Hid (AG W g 278 (AJ R))):∀j v,(AJ (R.take 256))[j]? =some v->W.drew.cell? (pK g (0+j))=some v:=by
 intro j v hv
 refine ((AB h).heap (W':=W.drew) rfl).cell ?_
 simp only [AJ,List.map_take,xy,zq] at hv ⊢
 split at hv
 ·exact hv
 ·cases hv
theorem fq {W:World} {g:Nat} {R:List Int} (h:Hid (AG W g 278 (AJ R))):∀j v,(AJ (R.drop 256))[j]? =some v->W.drew.cell? (pK g (256+j))=some v:=by
 intro j v hv
 refine ((AB h).heap (W':=W.drew) rfl).cell ?_
 simpa only [AJ,List.map_drop,List.getElem?_drop] using hv
theorem Oj (a:Option Addr) (b off cap:Nat) (ss:List ByteArray) (w:World) (hn:ss.length<=1000) (ha:0<ss.length->a=some (pK b off))
  (hcell:∀i,i<ss.length->w.cell? (pK b (off+i))=some (.string (ss.getD i ByteArray.empty))) (hok:CZ ss=false):
  Calls Tryz.prog 73 #[.slice a ss.length cap] w fun e w'=>e= .returned (.tuple #[.slice none 0 0,.int .u64 0,.iface 47 (.int .i64 6)])/\w'=w:=by
 have HC:=AC hcell
 have HA:=AC ha
 have HO:=AC hok
 clear hcell ha hok
 go_enter Tryz.func73,Tryz.ntmps73
 go_wp2_with fail
 refine (LX a b off cap ss _ hn (AB HA) (AB HC)).mono ?_
 rw [AB HO]
 rintro e w' ⟨rfl,rfl⟩
 go_wp2
 go_ret3
 exact ⟨rfl,rfl⟩
theorem Xk {s:ByteArray} {j:Nat} (hj:j<s.size) (h:(s[j].toNat:Int)=0):DF s=false:=by
 have:s[j]=0:=by
  apply UInt8.toNat_inj.1
  have:s[j].toNat=0:=by omega
  simpa using this
 have hm:(0:UInt8)∈s.data.toList:=by
  rw [<-this]
  exact List.getElem_mem (l:=s.data.toList) (by simpa using hj)
 simp [DF,hm]
theorem cd {s:ByteArray} (h:DF s=true) {j:Nat} (hj:j<s.size):(s[j].toNat:Int)≠0:=fun e=>by
 have:=Xk hj e
 rw [h] at this
 cases this
theorem Sc {s:ByteArray} (h:s.size<=30) (h0:∀j,(hj:j<s.size)->(s[j].toNat:Int)≠0):DF s=true:=by
 have:¬(0:UInt8)∈s.data.toList:=fun m=>by
  obtain ⟨j,hj,e⟩:=List.getElem_of_mem m
  have hj':j<s.size:=by simpa using hj
  have:s[j]=0:=e
  exact h0 j hj' (by rw [this];rfl)
 simp [DF,h,this]
theorem Ol (a:Option Addr) (b off cap:Nat) (ss:List ByteArray) (w:World) (hn:ss.length<=1000) (ha:0<ss.length->a=some (pK b off))
  (hcell:∀i,i<ss.length->w.cell? (pK b (off+i))=some (.string (ss.getD i ByteArray.empty))) (hs:∀s∈ss,s.size<=maxLen) (hok:CZ ss=false):
  Calls Tryz.prog 85 #[.slice a ss.length cap] w fun e w'=>e= .returned (.tuple #[.slice none 0 0,.int .u64 0,.int .i64 6])/\w'=w:=by
 have HC:=AC hcell
 have HA:=AC ha
 have HO:=AC hok
 by_cases h8:8<ss.length
 ·clear hcell ha hok
  go_enter Tryz.func85,Tryz.ntmps85
  go_wp2
  go_ret3
  exact ⟨rfl,rfl⟩
 ·clear hcell ha hok
  go_enter Tryz.func85,Tryz.ntmps85
  go_wp2
  go_loop [5] (fun i=>∃k:Nat,k<=ss.length/\i= .int .i64 k/\(ss.take k).all DF=true) (fun i=>ss.length-(intOf i).toNat)
  case atStart=>exact ⟨0,by omega,rfl,rfl⟩
  case round=>
   obtain ⟨k,hk,rfl,hall⟩:=hrel
   have HALL:=AC hall
   clear hall
   by_cases hlt:k<ss.length
   ·have hca:=(AB HC) k hlt
    have e:=(AB HA) (by omega)
    subst e
    have hms:=hs (ss.getD k ByteArray.empty) (by simp [List.getD,zz hlt])
    obtain ⟨s,hs'⟩:∃s,s=ss.getD k ByteArray.empty:=⟨_,rfl⟩
    rw [<-hs'] at hca hms
    have HS:=AC hs'
    unfold maxLen at hms
    clear hs'
    by_cases hl:s.size<=30
    ·go_wp2
     go_loop [6] (fun i=>∃j:Nat,j<=s.size/\i= .int .i64 j/\∀m,(hm:m<s.size)->m<j->(s[m].toNat:Int)≠0) (fun i=>s.size-(intOf i).toNat)
     case atStart=>exact ⟨0,by omega,rfl,fun m hm h=>by omega⟩
     case round=>
      obtain ⟨j,hj,rfl,hnz⟩:=hrel
      have HNZ:=AC hnz
      clear hnz
      by_cases hjl:j<s.size
      ·by_cases hz:(s[j].toNat:Int)=0
       ·have hb:((s[j].toNat:Int)==0)=true:=by simpa using hz
        have HZ:=AC hz
        clear hz
        go_wp2
        go_ret3
        exact ⟨rfl,rfl⟩
       ·have hb:((s[j].toNat:Int)==0)=false:=by simpa using hz
        have HZ:=AC hz
        clear hz
        go_wp2
        go_round
        case rel=>
         refine ⟨j+1,by omega,by go_num,fun m hm h=> ?_⟩
         by_cases e:m=j
         ·subst e;exact AB HZ
         ·exact AB HNZ m hm (by omega)
        case measure=>simp [intOf];omega
      ·have F:=AC (Rp hlt (by rw [<-AB HS];exact Sc hl (fun m hm=>AB HNZ m hm (by omega))) (AB HALL))
       go_wp2
       go_round
       case rel=>exact ⟨k+1,by omega,by go_num,AB F⟩
       case measure=>simp [intOf];omega
    ·go_wp2
     go_ret3
     exact ⟨rfl,rfl⟩
   ·exfalso
    have:ss.all DF=true:=by have:=AB HALL;rwa [yh (by omega)] at this
    have h2:=AB HO
    simp [CZ,this] at h2
    omega
end Go.Proofs.YtdchgbmliojoiaaGreatDoor
