import Derived.Test.YtdchgbmliojoiaaGreatDoorG27
import Derived.Test.YtdchgbmliojoiaaGreatDoorG31
set_option maxRecDepth 100000
set_option maxHeartbeats 4000000
set_option linter.unusedVariables false
set_option linter.unusedSimpArgs false
namespace Go.Proofs.YtdchgbmliojoiaaGreatDoor
section
open Go Go.RowKit
theorem dJ {w:World} {pb co:Nat} {PC U V op:Int} {a b:Nat} {im:Int} (K:Parts w pb co PC U V op a b im):Calls Tryz.prog 251 #[pq pb co,.agg #[.int .u8 op,.int .i64 (a:Int),.int .i64 (b:Int),.int .i16 im]] w (C4 w pb co PC a (IntKind.u64.wrap (U*V))):=by
 have HK:=AC K
 have HB:=AC (Ad.new w op a b im).drew
 have BX:=AC (Ad.new w op a b im).drew.c
 clear K
 go_enter Tryz.func251,Tryz.ntmps251
 go_wp2
 go_region_held (fun W=>W.cell? (pK w.heap.size 0)=some (.int .u8 op)/\W.cell? (pK w.heap.size 1)=some (.int .i64 (a:Int))/\W.cell? (pK w.heap.size 2)=some (.int .i64 (b:Int))/\W.cell? (pK w.heap.size 3)=some (.int .i16 im)) (exact AB BX) (first|(go_at_call 324;refine ((AB HK).ra _ (AB HB)).mono ?_;rintro e wn ⟨rfl,hb⟩;clear HB BX;have BX:=AC hb.c;have HB:=AC hb;clear hb)|(go_at_call 323;refine ((AB HK).rb _ (AB HB)).mono ?_;rintro e wn ⟨rfl,hb⟩;clear HB BX;have BX:=AC hb.c;have HB:=AC hb;clear hb)|(go_at_call 321;refine ((AB HK).be _ _ (AB HB)).mono ?_;rintro e wn ⟨rfl,hb,hc⟩;clear BX;have BX:=AC hb;have HC:=AC hc;clear hb hc))
 go_wp2
 go_ret
 exact ⟨rfl,AB HC⟩
theorem dK {w:World} {pb co:Nat} {PC U V op:Int} {a b:Nat} {im:Int} (K:Parts w pb co PC U V op a b im):Calls Tryz.prog 254 #[pq pb co,.agg #[.int .u8 op,.int .i64 (a:Int),.int .i64 (b:Int),.int .i16 im]] w (C4 w pb co PC a (bits .and .u64 U V)):=by
 have HK:=AC K
 have HB:=AC (Ad.new w op a b im).drew
 have BX:=AC (Ad.new w op a b im).drew.c
 clear K
 go_enter Tryz.func254,Tryz.ntmps254
 go_wp2
 go_region_held (fun W=>W.cell? (pK w.heap.size 0)=some (.int .u8 op)/\W.cell? (pK w.heap.size 1)=some (.int .i64 (a:Int))/\W.cell? (pK w.heap.size 2)=some (.int .i64 (b:Int))/\W.cell? (pK w.heap.size 3)=some (.int .i16 im)) (exact AB BX) (first|(go_at_call 324;refine ((AB HK).ra _ (AB HB)).mono ?_;rintro e wn ⟨rfl,hb⟩;clear HB BX;have BX:=AC hb.c;have HB:=AC hb;clear hb)|(go_at_call 323;refine ((AB HK).rb _ (AB HB)).mono ?_;rintro e wn ⟨rfl,hb⟩;clear HB BX;have BX:=AC hb.c;have HB:=AC hb;clear hb)|(go_at_call 321;refine ((AB HK).be _ _ (AB HB)).mono ?_;rintro e wn ⟨rfl,hb,hc⟩;clear BX;have BX:=AC hb;have HC:=AC hc;clear hb hc))
 go_wp2
 go_ret
 exact ⟨rfl,AB HC⟩
theorem fG {w:World} {pb co:Nat} {PC U V op:Int} {a b:Nat} {im:Int} (K:Parts w pb co PC U V op a b im):Calls Tryz.prog 255 #[pq pb co,.agg #[.int .u8 op,.int .i64 (a:Int),.int .i64 (b:Int),.int .i16 im]] w (C4 w pb co PC a (bits .or .u64 U V)):=by
 have HK:=AC K
 have HB:=AC (Ad.new w op a b im).drew
 have BX:=AC (Ad.new w op a b im).drew.c
 clear K
 go_enter Tryz.func255,Tryz.ntmps255
 go_wp2
 go_region_held (fun W=>W.cell? (pK w.heap.size 0)=some (.int .u8 op)/\W.cell? (pK w.heap.size 1)=some (.int .i64 (a:Int))/\W.cell? (pK w.heap.size 2)=some (.int .i64 (b:Int))/\W.cell? (pK w.heap.size 3)=some (.int .i16 im)) (exact AB BX) (first|(go_at_call 324;refine ((AB HK).ra _ (AB HB)).mono ?_;rintro e wn ⟨rfl,hb⟩;clear HB BX;have BX:=AC hb.c;have HB:=AC hb;clear hb)|(go_at_call 323;refine ((AB HK).rb _ (AB HB)).mono ?_;rintro e wn ⟨rfl,hb⟩;clear HB BX;have BX:=AC hb.c;have HB:=AC hb;clear hb)|(go_at_call 321;refine ((AB HK).be _ _ (AB HB)).mono ?_;rintro e wn ⟨rfl,hb,hc⟩;clear BX;have BX:=AC hb;have HC:=AC hc;clear hb hc))
 go_wp2
 go_ret
 exact ⟨rfl,AB HC⟩
theorem dL {w:World} {pb co:Nat} {PC U V op:Int} {a b:Nat} {im:Int} (K:Parts w pb co PC U V op a b im):Calls Tryz.prog 256 #[pq pb co,.agg #[.int .u8 op,.int .i64 (a:Int),.int .i64 (b:Int),.int .i16 im]] w (C4 w pb co PC a (bits .xor .u64 U V)):=by
 have HK:=AC K
 have HB:=AC (Ad.new w op a b im).drew
 have BX:=AC (Ad.new w op a b im).drew.c
 clear K
 go_enter Tryz.func256,Tryz.ntmps256
 go_wp2
 go_region_held (fun W=>W.cell? (pK w.heap.size 0)=some (.int .u8 op)/\W.cell? (pK w.heap.size 1)=some (.int .i64 (a:Int))/\W.cell? (pK w.heap.size 2)=some (.int .i64 (b:Int))/\W.cell? (pK w.heap.size 3)=some (.int .i16 im)) (exact AB BX) (first|(go_at_call 324;refine ((AB HK).ra _ (AB HB)).mono ?_;rintro e wn ⟨rfl,hb⟩;clear HB BX;have BX:=AC hb.c;have HB:=AC hb;clear hb)|(go_at_call 323;refine ((AB HK).rb _ (AB HB)).mono ?_;rintro e wn ⟨rfl,hb⟩;clear HB BX;have BX:=AC hb.c;have HB:=AC hb;clear hb)|(go_at_call 321;refine ((AB HK).be _ _ (AB HB)).mono ?_;rintro e wn ⟨rfl,hb,hc⟩;clear BX;have BX:=AC hb;have HC:=AC hc;clear hb hc))
 go_wp2
 go_ret
 exact ⟨rfl,AB HC⟩
theorem dQ {w:World} {pb co:Nat} {PC U V op:Int} {a b:Nat} {im:Int} (K:Parts2 w pb co PC U V op a b im):Calls Tryz.prog 265 #[pq pb co,.agg #[.int .u8 op,.int .i64 (a:Int),.int .i64 (b:Int),.int .i16 im]] w (EZ w (IU PC im (decide (IntKind.i64.wrap U<IntKind.i64.wrap V)))):=by
 have HK:=AC K
 have HB:=AC (Ad.new w op a b im).drew
 have BX:=AC (Ad.new w op a b im).drew.c
 clear K
 go_enter Tryz.func265,Tryz.ntmps265
 go_wp2
 go_region_held (fun W=>W.cell? (pK w.heap.size 0)=some (.int .u8 op)/\W.cell? (pK w.heap.size 1)=some (.int .i64 (a:Int))/\W.cell? (pK w.heap.size 2)=some (.int .i64 (b:Int))/\W.cell? (pK w.heap.size 3)=some (.int .i16 im)) (exact AB BX) (first|(go_at_call 324;refine ((AB HK).ra _ (AB HB)).mono ?_;rintro e wn ⟨rfl,hb⟩;clear HB BX;have BX:=AC hb.c;have HB:=AC hb;clear hb)|(go_at_call 323;refine ((AB HK).rb _ (AB HB)).mono ?_;rintro e wn ⟨rfl,hb⟩;clear HB BX;have BX:=AC hb.c;have HB:=AC hb;clear hb)|(go_at_call 330;refine ((AB HK).br _ _ (AB HB)).mono ?_;rintro e wn ⟨rfl,hb⟩;clear HB BX;have BX:=AC hb.c;have HB:=AC hb;clear hb))
 go_wp2
 go_ret
 exact ⟨rfl,(AB HB).below⟩
theorem aq {w:World} {pb co:Nat} {PC U V op:Int} {a b:Nat} {im:Int} (K:Parts2 w pb co PC U V op a b im):Calls Tryz.prog 266 #[pq pb co,.agg #[.int .u8 op,.int .i64 (a:Int),.int .i64 (b:Int),.int .i16 im]] w (EZ w (IU PC im (decide (U<V)))):=by
 have HK:=AC K
 have HB:=AC (Ad.new w op a b im).drew
 have BX:=AC (Ad.new w op a b im).drew.c
 clear K
 go_enter Tryz.func266,Tryz.ntmps266
 go_wp2
 go_region_held (fun W=>W.cell? (pK w.heap.size 0)=some (.int .u8 op)/\W.cell? (pK w.heap.size 1)=some (.int .i64 (a:Int))/\W.cell? (pK w.heap.size 2)=some (.int .i64 (b:Int))/\W.cell? (pK w.heap.size 3)=some (.int .i16 im)) (exact AB BX) (first|(go_at_call 324;refine ((AB HK).ra _ (AB HB)).mono ?_;rintro e wn ⟨rfl,hb⟩;clear HB BX;have BX:=AC hb.c;have HB:=AC hb;clear hb)|(go_at_call 323;refine ((AB HK).rb _ (AB HB)).mono ?_;rintro e wn ⟨rfl,hb⟩;clear HB BX;have BX:=AC hb.c;have HB:=AC hb;clear hb)|(go_at_call 330;refine ((AB HK).br _ _ (AB HB)).mono ?_;rintro e wn ⟨rfl,hb⟩;clear HB BX;have BX:=AC hb.c;have HB:=AC hb;clear hb))
 go_wp2
 go_ret
 exact ⟨rfl,(AB HB).below⟩
end
section
open Go.RowKit
theorem Kr (xs:List Ino):∀(n:Nat) (id:Int) (t:ByteArray),DP (xs.map erase) n id t=DP xs n id t
 |0,_,_=>rfl
 |n+1,id,t=>by
  unfold DP
  split
  ·rfl
  ·rw [List.find?_map,show (fun x:Ino=>x.id==id)∘erase=(fun x:Ino=>x.id==id) from rfl]
   cases xs.find? (fun x=>x.id==id) with
   |none=>rfl
   |some x=>exact Kr xs n x.parent _
theorem RW (xs:List Ino) (id:Int):Ci (xs.map erase) id=Ci xs id:=Kr xs _ _ _
theorem O6 (xs:List Ino) (n:Nat):D5 (xs.map erase) n=D5 xs n:=by
 unfold D5
 rw [<-List.map_take,List.filter_map,zc]
 rfl
theorem Tj {xs:List Ino} {cs:List (List Int)} {FL:List AV} (h:Pp (xs.map erase) cs FL):Pp xs cs FL:=by
 refine ⟨fun i x c hx hc hp=> ?_,?_,h.sorted⟩
 ·obtain ⟨J,h1,h2⟩:=h.each i (erase x) c (by rw [ze,hx];rfl) hc hp
  rw [RW] at h1 h2
  exact ⟨J,h1,h2⟩
 ·have:=h.count
  rw [zc,O6] at this
  exact this
theorem O7 {xs:List Ino} (h:JJ (xs.map erase)):JJ xs:=by
 refine ⟨fun x hx=>h.down (erase x) (yw.2 ⟨x,hx,rfl⟩),fun x hx hp=> ?_,fun x hx=>h.names (erase x) (yw.2 ⟨x,hx,rfl⟩)⟩
 obtain ⟨y,hy,he⟩:=h.there (erase x) (yw.2 ⟨x,hx,rfl⟩) hp
 obtain ⟨z,hz,rfl⟩:=yw.1 hy
 exact ⟨z,hz,he⟩
def Cp (R:List Int):List Pg:=[⟨254,6,R.take 256⟩,⟨255,6,R.drop 256⟩]
theorem JQ (R:List Int) (h:R.length=512):∀p∈Cp R,0<=p.perm/\p.perm<=255/\p.bytes.length=256:=by
 intro p hp
 simp only [Cp,List.mem_cons,List.mem_nil_iff,or_false] at hp
 rcases hp with rfl|rfl
 ·exact ⟨show (0:Int)<=6 by decide,show (6:Int)<=255 by decide,by simp [h]⟩
 ·exact ⟨show (0:Int)<=6 by decide,show (6:Int)<=255 by decide,by simp [h]⟩
def Cj (p:PK):AP:=⟨1,0,0,0,0,AW (p.fileOf At) 24 8,List.replicate 15 0++[65024+(EE [BI]:Int)],Am (p.fileOf At)++Cp (Aa [BI]),[-1, -1, -1,0,0,0,0,0]⟩
theorem VU (PS:List Pg) (R:List Int):Cd (PS++Cp R)=Cd PS++Di R 2:=by
 unfold Cd
 rw [List.flatMap_append]
 congr 1
 show Aj 254 6 (R.take 256)++(Aj 255 6 (R.drop 256)++[])=Aj 254 6 (R.take 256)++Aj 255 6 (R.drop 256)
 rw [xz]
theorem RX (E:Int) (sp:Int) (pv:Value):NJ GK 0 pv E sp=BW 1 0 0 0 0 E (List.replicate 15 0++[sp]) pv [-1, -1, -1,0,0,0,0,0]:=rfl
theorem Tk {p:PK} (h:p.ExecOk [0] 0 At [BI]) (hl:(Am (p.fileOf At)).length<=256):ec (Cj p):=by
 refine ⟨by simp [Cj],fun q hq=> ?_,?_⟩
 ·rcases List.mem_append.1 hq with h1|h1
  ·exact JI h.2.2.2.1 q h1
  ·exact JQ _ (Cc h.2.2.2.2.1) q h1
 ·simp [Cj,Cp];omega
theorem J7 {B:List Int} (h:KU B):(Am B).length<=256:=GI (fun q hq=>h.2.2.1 q hq)
theorem Yc {FZ:List AV} (h:Ge FZ=true):FZ.length<=100/\(FZ.map (fun f=>f.bytes.length)).sum<=200000:=by
 unfold Ge at h
 simp only [Bool.and_eq_true,decide_eq_true_eq] at h
 refine ⟨h.1,zh ?_ h.2⟩
 clear h
 induction FZ with
 |nil=>simp
 |cons a r ih=>simp [Eg] at ih ⊢;omega
end
section
open Go Go.RowKit
def Hf:AV:=⟨At,false,Dg⟩
theorem V1:Ar At=some [BI]:=by kernel_rfl
def P6:PK:=⟨2,10,2,3,1000,2,[root,Bh 2 1 BI false],[[],Dg]⟩
theorem I8:Dg.length=260:=by kernel_rfl
theorem Y5:((B6 2 10 2 3 1000).put Hf).1=0:=by kernel_rfl
theorem bw:((B6 2 10 2 3 1000).put Hf).2=P6:=by kernel_rfl
theorem P8:(B6 2 10 2 3 1000).puts [Hf]=(0,P6):=by
 unfold PK.puts
 rw [if_neg (by rw [Y5];decide),bw]
 rfl
theorem OP:AN P6.xs At=⟨1,BI,2,0⟩:=by
 unfold AN
 rw [V1]
 kernel_rfl
theorem bz:CI P6.xs 2=false:=by kernel_rfl
theorem Y6:P6.fileOf At=Dg:=by
 unfold PK.fileOf
 rw [OP]
 rfl
theorem V3:Hs Dg:=by
 unfold Hs
 kernel_rfl
theorem P9:AW Dg 16 2=2/\AW Dg 18 2=243/\AW Dg 20 4=1/\AW Dg 32 8=64/\AW Dg 52 2=64/\AW Dg 54 2=56/\AW Dg 56 2=1/\AW Dg 24 8=256:=⟨by kernel_rfl,by kernel_rfl,by kernel_rfl,by kernel_rfl,by kernel_rfl,by kernel_rfl,by kernel_rfl,by kernel_rfl⟩
theorem cA:B5 Dg:=by
 obtain ⟨a,b,c,d,e,f,g,h⟩:=P9
 refine ⟨by rw [I8];decide,V3,a,b,c,d,e,f,?_⟩
 rw [g,I8]
 decide
theorem V4:Bq Dg=1:=by kernel_rfl
theorem V6:Dc Dg 64=⟨5,256,256,4,4⟩:=by
 unfold Dc
 kernel_rfl
theorem cB:Ff Dg 64:=by
 unfold Ff
 rw [V6,I8]
 exact ⟨by kernel_rfl,⟨by decide,by decide,by decide⟩,by decide,by decide,by decide,by decide,by decide⟩
theorem QC:BZ Dg=[⟨5,256,256,4,4⟩]:=by kernel_rfl
theorem cC:(Am Dg).length=1:=by kernel_rfl
theorem Y7:KU Dg:=by
 refine ⟨cA,fun i hi=> ?_,fun p hp=> ?_,?_⟩
 ·rw [V4] at hi
  have:i=0:=by omega
  subst this
  exact cB
 ·rw [QC]
  exact List.countP_le_length
 ·rw [P9.2.2.2.2.2.2.2]
  refine ⟨by decide,by decide,⟨1,5,CP Dg ⟨5,256,256,4,4⟩ 1⟩,?_,by decide,by decide⟩
  unfold Am Bb
  rw [QC]
  exact List.mem_flatMap.2 ⟨1,zg.2 (by decide),by
   rw [show List.filter (fun s=>cov s 1) [(⟨5,256,256,4,4⟩:Seg)]=[⟨5,256,256,4,4⟩] from by kernel_rfl]
   exact List.mem_singleton.2 rfl⟩
theorem V7:AY Dg:=by
 refine CB.2 ?_
 have h:Dg.all (fun x=>decide (0<=x)&&decide (x<=255))=true:=by kernel_rfl
 intro x hx
 have:=zb.1 h x hx
 simpa using this
theorem dp:CZ [BI]=true:=by kernel_rfl
theorem Y8:P6.ExecOk [0] 0 At [BI]:=by
 unfold PK.ExecOk
 rw [OP,Y6,cC]
 exact ⟨rfl,by decide,bz,Y7,dp,by decide⟩
theorem V8:E5 2 10 2 3 1000 [Hf]:=by
 refine ⟨by unfold Fm;decide,by decide,?_,?_⟩
 ·rw [P8]
 ·rw [P8];exact Y8
theorem Y9 (w:World) (KR:World->Nat->Addr->PK->Prop)
  (hprog:∀(w':World) (va:Option Addr) (vb vcap:Nat) (LS':List BN),Below w.heap.size w w'->(0<[Hf].length->va=some (pK vb 0)/\vb<w'.heap.size)->Cz w' vb 0 [Hf] LS'->Calls Tryz.prog 6 #[.agg #[.int .i64 2,.int .i64 10,.int .i64 2,.int .i64 3,.int .i64 1000],.slice va [Hf].length vcap] w' (GL 2 10 2 3 1000 [Hf] KR w')):
  Calls Tryz.prog 4 #[] w fun e w'=>e= .returned (.bool true)/\Below w.heap.size w w':=by
 have HPR:=AC hprog
 have HT:=AC (bu w)
 clear hprog
 go_enter Tryz.func4,Tryz.ntmps4
 go_wp2_with fail
 refine (AB HT).mono ?_
 rintro e w1 ⟨rfl,hh1,hb1⟩
 obtain ⟨W2,hW2⟩:∃W2,W2=w1.alloc (Obj.cells #[.string At,.bool false,.slice (some (pK w.heap.size 0)) 260 260] 46):=⟨_,rfl⟩
 have hb2:Below w1.heap.size w1 W2:=by rw [hW2];exact (zw _ _).alloc (zx _) _
 have hn2:AG W2 w1.heap.size 46 [.string At,.bool false,.slice (some (pK w.heap.size 0)) 260 260]:=by rw [hW2];exact AG.new w1 46 _
 have hh2:AG W2 w.heap.size 5 (AJ Dg):=hh1.below hb2 hh1.lt
 have hbw2:Below w.heap.size w W2:=hb1.trans (hb2.mono hb1.size)
 have HPC:=AC (AB HPR W2 (some (pK w1.heap.size 0)) w1.heap.size 1 [⟨some (pK w.heap.size 0),w.heap.size,0,260⟩] hbw2 (fun _=>⟨rfl,hn2.lt⟩) ⟨rfl,fun i f l hf hl=>by
  have hi:=(zy.1 hf).1
  have hi0:i=0:=by simp at hi;omega
  subst hi0
  have e1:Hf=f:=by simpa using hf
  have e2:(⟨some (pK w.heap.size 0),w.heap.size,0,260⟩:BN)=l:=by simpa using hl
  subst e1 e2
  refine ⟨hn2.cell (j:=0) rfl,hn2.cell (j:=1) rfl,?_,fun _=>⟨rfl,hh2.lt⟩,fun j hj=> ?_⟩
  ·rw [show Hf.bytes.length=260 from I8];exact hn2.cell (j:=2) rfl
  ·rw [zq];exact hh2.bytes j hj⟩)
 have HB2:=AC hbw2
 have HW2:=AC hW2
 unfold At at hW2
 have HW2':=AC hW2
 clear hh1 hb1 hb2 hn2 hh2 hbw2 hW2 HT HPR
 go_wp2_with fail
 rw [<-AB HW2']
 refine (AB HPC).mono ?_
 rintro e w3 ⟨hb3,(⟨c,hc,rfl⟩|⟨_,kp,rfl,_⟩)⟩
 ·exact (Iy hc V8).elim
 ·have HB3:=AC ((AB HB2).trans (hb3.mono (AB HB2).size))
  have HTN:=AC (KA w3)
  clear hb3 HPC
  go_wp2_with fail
  refine (AB HTN).mono ?_
  rintro e w4 ⟨rfl,hb4⟩
  have HB4:=AC ((AB HB3).trans (hb4.mono (AB HB3).size))
  clear hb4 HTN
  go_wp2
  go_ret
  exact ⟨rfl,AB HB4⟩
end
end Go.Proofs.YtdchgbmliojoiaaGreatDoor
