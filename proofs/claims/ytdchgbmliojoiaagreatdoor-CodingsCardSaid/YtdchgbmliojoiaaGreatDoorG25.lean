import Derived.Test.YtdchgbmliojoiaaGreatDoorG18
import Derived.Test.YtdchgbmliojoiaaGreatDoorG21
set_option maxRecDepth 100000
set_option maxHeartbeats 4000000
set_option linter.unusedVariables false
set_option linter.unusedSimpArgs false
namespace Go.Proofs.YtdchgbmliojoiaaGreatDoor
section
open Go.RowKit
def At:ByteArray:=⟨#[47,105,110,105,116]⟩
def BI:ByteArray:=⟨#[105,110,105,116]⟩
def GK:List Value:=[.int .i64 1,.int .i64 0,.int .i64 0,.int .i64 0,.int .i64 0,.int .u64 0]++IQ++[.slice none 0 0,.int .i64 (-1),.int .i64 (-1),.int .i64 (-1),.int .i64 0,.int .i64 0,.int .i64 0,.int .i64 0,.int .i64 0]
def MX (lp lf lo li lb:Int) (FZ:List AV) (c:Int):Prop:=
 ((B6 lp lf lo li lb).puts FZ).1≠0/\c=((B6 lp lf lo li lb).puts FZ).1\/((B6 lp lf lo li lb).puts FZ).1=0/\((B6 lp lf lo li lb).puts FZ).2.ExecErr [0] 0 At [BI] c
structure EY (p:PK) (w w':World) (k:RK) (cs:List (List Int)) (g cap gp pc gn cn:Nat):Prop where
 toP:k.toP cs=p
 rep:D9 w' (w.heap.size+2) (w.heap.size+1) g cap k
 cont:Ch w' k.inos cs
 inv:Ho k
 bytes:CC cs
 used:AU cs<=200000
 inos:k.inos.length<=101
 last:k.last<=101
 pv:k.pv= .slice (some (pK gp 0)) 1 pc
 nils:k.ov= .slice none 0 0/\k.cv= .slice none 0 0/\k.tv= .slice none 0 0/\k.uv= .slice none 0 0/\k.mv= .slice none 0 0
 ok:p.ExecOk [0] 0 At [BI]
 pages:w'.ownsRow (w.heap.size+2) 138 258 (.slice (some (pK gn 0)) ((Am (p.fileOf At)).length+2) cn) ((Am (p.fileOf At)).length+2) (Cd (Am (p.fileOf At))++Di (Aa [BI]) 2)
 procs:w'.ownsRow (w.heap.size+2) 80 31 (.slice (some (pK gp 0)) 1 pc) 1 (NJ GK 0 (.slice (some (pK gn 0)) ((Am (p.fileOf At)).length+2) cn) (AW (p.fileOf At) 24 8) (65024+(EE [BI]:Int)))
 apart:g≠gp/\g≠gn/\gp≠gn
def Ni (w:World):Ending:= .returned (.tuple #[pq (w.heap.size+1) 0,.int .i64 0])
def Zz (lp lf lo li lb:Int) (FZ:List AV) (w:World) (e:Ending) (w':World):Prop:=
 Below w.heap.size w w'/\((∃c,MX lp lf lo li lb FZ c/\e=Im c)\/(((B6 lp lf lo li lb).puts FZ).1=0/\e=Ni w/\∃k cs g cap gp pc gn cn,EY ((B6 lp lf lo li lb).puts FZ).2 w w' k cs g cap gp pc gn cn))
def ft:List Value:=[.int .i64 0,.int .i64 0,.int .i64 0,.int .i64 0,.int .i64 0,.int .u64 0]++IQ++[.slice none 0 0,.int .i64 0,.int .i64 0,.int .i64 0,.int .i64 0,.int .i64 0,.int .i64 0,.int .i64 0,.int .i64 0]
theorem Z0:(Tryz.prog.info? 80).map (fun i=>(i.zero,i.size,i.bytes))=some (some (.agg ft.toArray),31,264):=by kernel_rfl
theorem Z4:(Tryz.prog.info? 80).map (·.size)=some GK.length:=by kernel_rfl
theorem X4:∀u∈GK,u.oneCell'=true:=by
 intro u hu
 simp only [GK,IQ,List.replicate,List.cons_append,yc,List.mem_cons,List.not_mem_nil,or_false] at hu
 rcases hu with rfl|rfl|rfl|rfl|rfl|rfl|rfl|rfl|rfl|rfl|rfl|rfl|rfl|rfl|rfl|rfl|rfl|rfl|rfl|rfl|rfl|rfl|rfl|rfl|rfl|rfl|rfl|rfl|rfl|rfl|rfl<;>rfl
theorem U1:Zl GK [0]:=⟨rfl,fun j n h=>by
 match j,h with
 |0,h=>
  have:n=0:=by simpa using h.symm
  subst this
  exact ⟨none,0,rfl⟩⟩
theorem Z5 {B:List Int} {c:Int} (h:Bad B c):c≠0:=by
 rcases h with ⟨_,rfl⟩|⟨_,_,rfl⟩|⟨_,_,(⟨_,rfl⟩|⟨_,_,rfl⟩)⟩<;>decide
theorem U2 {k:RK} {cs:List (List Int)} {PL:List Nat} {i:Nat} {s:ByteArray} {ss:List ByteArray} {c:Int} (h:ExecErr k cs PL i s ss c):c≠0:=by
 rcases h with ⟨h,rfl⟩|⟨_,(⟨_,rfl⟩|⟨_,(⟨_,rfl⟩|⟨_,(h|⟨_,(⟨_,rfl⟩|⟨_,_,rfl⟩)⟩)⟩)⟩)⟩
 ·exact h
 ·decide
 ·decide
 ·exact Z5 h
 ·decide
 ·decide
theorem Z6 {cs:List (List Int)} {n:Nat} (h:CC cs) (hu:AU cs<=n):∀c∈cs,AY c/\c.length<=n:=fun c hc=>by
 obtain ⟨i,hi⟩:=yo.1 hc
 exact ⟨h c hc,zh (JG hi) hu⟩
theorem U5 {w:World} {base n g cap:Nat} {xs:List Value} (h:w.ownsRow base 80 31 (.slice (some (pK g 0)) n cap) n xs):∀vs,¬AG w g 5 vs:=fun vs hv=>by
 rcases h.2 with ⟨h',_⟩|⟨g',cap',cur,h',_,hg,_⟩
 ·simp at h'
 ·simp only [Value.slice.injEq,Option.some.injEq,Addr.mk.injEq,and_true,true_and] at h'
  obtain ⟨rfl,_⟩:=h'
  unfold AG at hv
  rw [hg] at hv
  simp at hv
theorem X5 (lp lf lo li lb:Int) (FZ:List AV) (w wr:World) (hn:FZ.length<=100) (hsum:(FZ.map (fun f=>f.bytes.length)).sum<=200000) (k:RK) (cs:List (List Int)) (g cap:Nat) (h:Ng lp lf lo li lb w FZ FZ.length wr k cs g cap)
  (wX:World) (gp pc:Nat) (hG:wr.grownBy wX (some (w.heap.size+1))) (hk:AG wX (w.heap.size+1) 87 ({k with pv:= .slice (some (pK gp 0)) 1 pc}.cells (.slice (some (pK g 0)) k.inos.length cap)))
  (hown:wX.ownsRow (w.heap.size+2) 80 31 (.slice (some (pK gp 0)) 1 pc) 1 GK) (hgp:wr.heap.size<=gp) (ab acap:Nat) (hab:ab<wX.heap.size) (hac:wX.cell? (pK ab 0)=some (.string BI)):
  Calls Tryz.prog 42 #[pq (w.heap.size+1) 0,pq gp 0,.string At,.slice (some (pK ab 0)) 1 acap] wX fun e w'=>∃c:Int,e= .returned (.tuple #[.int .i64 0,.int .i64 c])/\Below w.heap.size w w'/\(c≠0->MX lp lf lo li lb FZ c)/\
   (c=0->((B6 lp lf lo li lb).puts FZ).1=0/\∃k cs g cap gp pc gn cn,EY ((B6 lp lf lo li lb).puts FZ).2 w w' k cs g cap gp pc gn cn):=by
 have hgl:=h.rep.2.lt g rfl
 have hkl:=h.rep.1.lt
 have hsz:=h.below.size
 have hGs:=hG.size
 have hgp2:=hown.lt gp rfl
 have hus:=h.used
 have hput:=h.puts
 rw [List.take_length] at hus hput
 have hpv:({k with pv:= .slice (some (pK gp 0)) 1 pc}:RK).toP cs=k.toP cs:=rfl
 have hr:D9 wX (w.heap.size+2) (w.heap.size+1) g cap {k with pv:= .slice (some (pK gp 0)) 1 pc}:=⟨hk,h.rep.2.kept hG (.inr (by show some g≠some (w.heap.size+1);simp;omega))⟩
 have hfr:Al wr wX (w.heap.size+1) (w.heap.size+1):=⟨hG.os,hG.tape,hG.output,hG.size,fun b hb h1 _=>hG.block b hb (by simpa using h1)⟩
 have hc:Ch wX k.inos cs:=h.cont.frame hfr h.rep.apart.1 h.rep.apart.1
 have hbX:Below w.heap.size w wX:=h.below.trans (hfr.below (by omega) (by omega) (by omega))
 have hcs:(cs.map List.length).sum<=1000000:=by have:AU cs=(cs.map List.length).sum:=rfl;omega
 have hin:=h.inos
 have hla:=h.last
 have hex:=Sd (w.heap.size+2) (w.heap.size+1) g cap gp 1 pc 0 {k with pv:= .slice (some (pK gp 0)) 1 pc} cs [0] GK 0 0 none At (some (pK ab 0)) ab 0 acap [BI] wX hr hc h.inv (fun c hc=>by have:=Z6 h.bytes hus c hc;exact ⟨this.1,by omega⟩) rfl hown U1 (by omega) h.nils.ov (by omega) (by omega) (show k.inos.length<=10000 by omega) (by decide) hcs (by omega) (by decide) (by decide) (fun _=>rfl) hab (fun j hj=>by
  have:j=0:=by simp at hj;omega
  subst this;exact hac) (fun x hx=>by
  have:x=BI:=by simpa using hx
  subst this;decide)
 refine hex.mono ?_
 rintro e w' (⟨c,he,rfl,hb⟩|⟨hok,rfl,hg,gn,cn,hpg,hpr⟩)
 ·refine ⟨c,rfl,hbX.trans (hb.mono (by omega)),fun _=> .inr ?_,fun h0=>absurd h0 (U2 he)⟩
  rw [hput]
  exact ⟨rfl,Sf he⟩
 ·have hgn:=hpg.lt gn rfl
  refine ⟨0,rfl,hbX.trans ⟨hg.os,hg.tape,hg.output,hg.size,fun b hb=>hg.block b (by omega) (by simp;omega)⟩,fun h0=>absurd rfl h0,fun _=> ?_⟩
  rw [hput]
  refine ⟨rfl,{k with pv:= .slice (some (pK gp 0)) 1 pc},cs,g,cap,gp,pc,gn,cn,⟨hpv,⟨hr.1.grown hg (by simp;omega),hr.2.kept hg (.inr (by show some g≠some gp;simp;omega))⟩,?_,h.inv,h.bytes,by omega,show k.inos.length<=101 by omega,show k.last<=101 by omega,rfl,?_,Uq hok,?_,?_,⟨by omega,by omega,by omega⟩⟩⟩
  ·have hfr2:Al wX w' gp gp:=⟨hg.os,hg.tape,hg.output,hg.size,fun b hb h1 _=>hg.block b hb (by simpa using h1)⟩
   have hap:=U5 hown
   exact hc.frame hfr2 hap hap
  ·have h1:=h.nils
   exact ⟨congrArg RK.ov h1,congrArg RK.cv h1,congrArg RK.tv h1,congrArg RK.uv h1,congrArg RK.mv h1⟩
  ·rw [Hw]
   exact EJ hpg (by omega)
  ·rw [Hw]
   exact hpr
theorem Ot (lp lf lo li lb:Int) (pa da ba:Option Addr) (pb poff pcap db doff dcap bb boff bcap:Nat) (FZ:List AV) (w:World) (h:Fm lp lf lo li lb) (h0:li≠0) (hn:FZ.length<=100) (hsum:(FZ.map (fun f=>f.bytes.length)).sum<=200000)
  (hpa:0<FZ.length->pa=some (pK pb poff)/\da=some (pK db doff)/\ba=some (pK bb boff)) (hf:MV w pb poff db doff bb boff FZ) (hlt:pb<w.heap.size/\db<w.heap.size/\bb<w.heap.size) (hps:∀f∈FZ,f.path.size<=maxLen/\AY f.bytes):
  Calls Tryz.prog 18 #[.agg #[.int .i64 lp,.int .i64 lf,.int .i64 lo,.int .i64 li,.int .i64 lb],.slice pa FZ.length pcap,.slice da FZ.length dcap,.slice ba FZ.length bcap] w fun e w'=>Zz lp lf lo li lb FZ w e w':=by
 obtain ⟨a1,a2,a3,a4,a5,a6,a7,a8,a9,a10⟩:=h
 have gli:(li==0)=false:=by simpa using h0
 have b1:decide (lp<1)=false:=decide_eq_false (by omega)
 have b2:decide (16<lp)=false:=decide_eq_false (by omega)
 have b3:decide (lf<1)=false:=decide_eq_false (by omega)
 have b4:decide (1000<lf)=false:=decide_eq_false (by omega)
 have b5:decide (lo<0)=false:=decide_eq_false (by omega)
 have b6:decide (100000<lo)=false:=decide_eq_false (by omega)
 have b7:decide (li<0)=false:=decide_eq_false (by omega)
 have b8:decide (100000<li)=false:=decide_eq_false (by omega)
 have b9:decide (lb<0)=false:=decide_eq_false (by omega)
 have b10:decide (100000<lb)=false:=decide_eq_false (by omega)
 have HF:=AC hf
 have HPA:=AC hpa
 have HST:=AC (fun (j:Nat) (f:AV) (hf:FZ[j]? =some f)=>X3 lp lf lo li lb FZ w j f hf hn hsum hps)
 obtain ⟨o1,ho1⟩:∃o,o=Obj.cells #[.int .i64 lp,.int .i64 lf,.int .i64 lo,.int .i64 li,.int .i64 lb] 70:=⟨_,rfl⟩
 obtain ⟨W0,hW0⟩:∃W0,W0=(w.alloc o1).alloc (Obj.cells ((rk0 lp lf lo li lb).cells (.slice none 0 0)).toArray 87):=⟨_,rfl⟩
 have hk0:AG W0 (w.heap.size+1) 87 ((rk0 lp lf lo li lb).cells (.slice none 0 0)):=by
  have hh:=AG.new (w.alloc o1) 87 ((rk0 lp lf lo li lb).cells (.slice none 0 0))
  rw [show (w.alloc o1).heap.size=w.heap.size+1 from by simp] at hh
  rw [hW0];exact hh
 have hb0:Below w.heap.size w W0:=by rw [hW0];exact ((zw _ _).alloc (zx _) _).alloc (by simp) _
 have hs0:W0.heap.size=w.heap.size+2:=by rw [hW0];simp
 have HFR:=AC (KO (w.heap.size+2) (w.heap.size+1) (rk0 lp lf lo li lb) (.slice none 0 0) W0 hk0 (Int.le_refl 0) (by show (0:Int)<=1000000;decide))
 have HB0:=AC hb0
 have HK0:=AC hk0
 have HS0:=AC hs0
 have HW0:=AC (hW0.trans (by rw [ho1]))
 have HPS:=AC hps
 have HSUM:=AC hsum
 clear hf hpa hps hsum h0 ho1 hW0 hk0 hb0 hs0 a1 a2 a3 a4 a5 a6 a7 a8 a9 a10
 go_enter Tryz.func18,Tryz.ntmps18
 go_wp2_with fail
 have hfr:=AB HFR
 rw [AB HW0] at hfr
 refine hfr.mono ?_
 rintro e w1 ⟨rfl,hk1,hg1⟩
 clear hfr HFR
 rw [<-AB HW0] at hg1
 have hs1:w.heap.size+2<=w1.heap.size:=by have h1:=hg1.size;have h2:=AB HS0;omega
 have HB1:=AC ((AB HB0).trans (Ag (B:=w.heap.size) hg1 (by omega) (by have h2:=AB HS0;omega)))
 have c7:w1.cell? (pK (w.heap.size+1) 7)=some (.slice none 0 0):=hk1.cell rfl
 have HK1:=AC hk1
 obtain ⟨ii,hii,hz0,hz1,hz2⟩:=Eu QO
 have HII:=AC (And.intro hii (And.intro hz0 (And.intro hz1 hz2)))
 have HNW:=AC (show ∀j u,(BJ root)[j]? =some u->(w1.alloc (Obj.cells (BJ root).toArray 128)).cell? (((pK w1.heap.size 0):Addr).add j)=some u from fun j u hj=>by
  rw [CN,zq]
  exact (AG.new w1 128 (BJ root)).cell hj)
 clear hk1 hg1 hii hz0 hz1 hz2
 simp only [show (rk0 lp lf lo li lb).last+1=1 from rfl]
 go_upto_region 11 with (at_builtin;refine wpList_append_lies _ (by rfl) _ _ 83 (by rfl) (w.heap.size+2) 128 ii _ 5 64 Tryz.underlying83 (AB HII).1 (AB HII).2.1 (AB HII).2.2.1 (AB HII).2.2.2 rfl (by decide) _ 0 [] (by rfl) (World.ownsRow_nil _ _ _ _) (pK w1.heap.size 0) 1 1 (BJ root) (by rfl) (by rfl) (AB HNW) (by intro u hu;simp only [BJ,root,List.mem_cons,List.not_mem_nil,or_false] at hu;rcases hu with rfl|rfl|rfl|rfl|rfl<;>rfl) (by omega) (by unfold maxLen;omega) (by omega) (by simp;omega) (w1.heap.size+1) (by simp) ?_;intro g5 cap5 w5 hown5 hgrow5 hat5 hlt5;have k5:=((AB HK1).alloc (Obj.cells (BJ root).toArray 128)).grown hgrow5 (by show some (w.heap.size+1)≠none;simp);have x7:=k5.cell (j:=7) rfl;have y7:=k5.frozen 7;have K5:=AC k5;clear k5)
 have hg5:g5=w1.heap.size+1:=by rcases hat5 with h|h;simp [Value.ownBlock] at h;exact h
 have hr6:D9 (w5.setCell (pK (w.heap.size+1) 7) (.slice (some (pK g5 0)) 1 cap5)) (w.heap.size+2) (w.heap.size+1) g5 cap5 (rk1 lp lf lo li lb):=by
  refine ⟨(AB K5).set 7 _,?_⟩
  exact hown5.kept (AS (zk w5 (some (w.heap.size+1))) 7 _) (.inr (by show some g5≠some (w.heap.size+1);simp;omega))
 have hb6:Below w.heap.size w (w5.setCell (pK (w.heap.size+1) 7) (.slice (some (pK g5 0)) 1 cap5)):=
  (((AB HB1).alloc (by omega) _).grown hgrow5 (by simp;omega) (by intro q h;simp [Value.ownBlock] at h)).setCell (p:=(pK (w.heap.size+1) 7)) (Nat.le_succ _) _
 have HR0:=AC (show Nh lp lf lo li lb w FZ 0 (w5.setCell (pK (w.heap.size+1) 7) (.slice (some (pK g5 0)) 1 cap5)) from ⟨rk1 lp lf lo li lb,[[]],g5,cap5,hr6,⟨rfl,fun i x c hx hc=>by
   match i,hx,hc with
   |0,hx,hc=>
    have e1:root=x:=by simpa [rk1] using hx
    have e2:[]=c:=by simpa using hc
    subst e1 e2
    exact .inl ⟨rfl,rfl⟩
   |(m+1),hx,_=>simp [rk1] at hx⟩,ci lp lf lo li lb,rfl,rfl,KX,by simp [AU],by simp [rk1],by simp [rk1],hb6⟩)
 clear hown5 hgrow5 hat5 hr6 hb6 x7 y7 c7 hg5 hlt5
 go_loopw [12] (fun i wr=>∃(j:Nat),j<=FZ.length/\i= .int .i64 j/\Hid (Nh lp lf lo li lb w FZ j wr)) (fun i _=>FZ.length-(intOf i).toNat)
 case atStart=>exact ⟨0,by omega,rfl,HR0⟩
 case round=>
  obtain ⟨j,hj,rfl,HR⟩:=hrel
  by_cases hlt2:j<FZ.length
  ·obtain ⟨f,hf⟩:∃f,FZ[j]? =some f:=⟨_,zz hlt2⟩
   obtain ⟨e1,e2,e3⟩:=(AB HPA) (by omega)
   subst e1 e2 e3
   obtain ⟨a,q,o,c,hcb,haq,hbv⟩:=(AB HF).bytes j f hf
   obtain ⟨k,cs,g,cap,hba⟩:=AB HR
   have d1:wr.cell? (pK pb (poff+j))=some (.string f.path):=by rw [hba.below.cell (p:=(pK pb (poff+j))) hlt.1];exact (AB HF).path j f hf
   have d2:wr.cell? (pK db (doff+j))=some (.bool f.dir):=by rw [hba.below.cell (p:=(pK db (doff+j))) hlt.2.1];exact (AB HF).dir j f hf
   have d3:wr.cell? (pK bb (boff+j))=some (.slice a f.bytes.length c):=by rw [hba.below.cell (p:=(pK bb (boff+j))) hlt.2.2];exact hcb
   have hj0:(0:Int)<=(j:Int):=by omega
   have hj1:(j:Int)<(FZ.length:Int):=by omega
   have HFD:=AC (AB HST j f hf a q o c haq hbv wr.drew (AB HR).drew)
   clear hba hf hcb haq hbv
   go_wp2
   go_region_with (go_at_call 41;refine (AB HFD).mono ?_;rintro e w7 ⟨c1,rfl,hb7,hne,hok⟩;have HB7:=AC hb7;have HNE:=AC hne;have HOK:=AC hok;clear hb7 hne hok)
   all_goals
    by_cases hz:c1=0
    ·subst hz
     have HR7:=AC (AB HOK rfl)
     clear HOK HNE
     go_wp2
     go_roundw
     case rel=>first|exact ⟨j+1,by omega,by go_num,HR7⟩|((repeat apply Exists.intro);exact ⟨⟨j+1,by omega,by go_num,HR7⟩,rfl⟩)
     case measure=>simp [intOf];omega
    ·have hz2:(c1 !=0)=true:=by simpa using hz
     have HX:=AC (show MX lp lf lo li lb FZ c1 from .inl (by rw [AB HNE hz];exact ⟨hz,rfl⟩))
     clear hz HOK HNE
     go_wp2
     go_ret2
     exact ⟨AB HB7,.inl ⟨c1,AB HX,rfl⟩⟩
  ·have hje:j=FZ.length:=by omega
   subst hje
   obtain ⟨k,cs,g,cap,hba⟩:=AB HR
   have hwl:=hba.below.size
   have hgl:=hba.rep.2.lt g rfl
   obtain ⟨W8,hW8⟩:∃W8,W8=wr.alloc (Obj.cells GK.toArray 80):=⟨_,rfl⟩
   have hs8:W8.heap.size=wr.heap.size+1:=by rw [hW8];simp
   have hkb8:AG W8 (w.heap.size+1) 87 (k.cells (.slice (some (pK g 0)) k.inos.length cap)):=by rw [hW8];exact hba.rep.1.alloc _
   have hp8:AG W8 wr.heap.size 80 GK:=by rw [hW8];exact AG.new wr 80 GK
   have c5:W8.cell? (pK (w.heap.size+1) 5)=some (.slice none 0 0):=by rw [<-hba.nils.pv];exact hkb8.cell rfl
   have f5:=hkb8.frozen 5
   have hl8:w.heap.size+1<W8.heap.size:=by omega
   have hm8:W8.heap.size≠w.heap.size+1:=by omega
   have hm9:w.heap.size+1≠W8.heap.size:=by omega
   obtain ⟨ip,hip,hp0,hp1,hp2⟩:=Eu Z0
   have HIP:=AC (And.intro hip (And.intro hp0 (And.intro hp1 hp2)))
   obtain ⟨PP,hPP⟩:∃PP,PP=GK:=⟨_,rfl⟩
   have hpn:PP.length=31:=by rw [hPP];rfl
   have HP1:=AC (show ∀u∈PP,u.oneCell'=true from by rw [hPP];exact X4)
   have HPZ:=AC (show (Tryz.prog.info? 80).map (·.size)=some PP.length from by rw [hPP];exact Z4)
   have HPP:=AC hPP
   have HR8:=AC (show W8.drew.rangeAt wr.heap.size 0 PP from by rw [World.rangeAt_drew,hPP];exact hp8.range)
   have HNP:=AC (show ∀(W:World) (j:Nat) (u:Value),PP[j]? =some u->(W.alloc (Obj.cells PP.toArray 80)).cell? (((pK W.heap.size 0):Addr).add j)=some u from fun W j u hj=>by
    rw [CN,zq]
    exact (AG.new W 80 PP).cell hj)
   have HK8:=AC hkb8
   have HS8:=AC hs8
   have HW8:=AC hW8
   simp only [GK,IQ,List.replicate,List.cons_append,yc] at hW8
   have HWL:=AC hW8
   have HBA:=AC hba
   clear hba HR hlt2 hj hkb8 hs8 hW8 hp8 hPP hip hp0 hp1 hp2
   go_upto_region 21 with fail
   rw [<-AB HWL]
   refine BA ?_
   intro A hA
   have e10:A.eval (.tmp 10)= pq (w.heap.size+1) 0:=by rw [hA];rfl
   have e14:A.eval (.tmp 14)= pq wr.heap.size 0:=by rw [hA];rfl
   have esz:A.tmps.size=137:=by rw [hA];rfl
   have HA:=AC hA
   clear hA
   refine wp_region_held_drew (S:=fun w'=>w'.rangeAt wr.heap.size 0 PP) (by kernel_rfl) (AB HR8) (fun hS=> ?_)
   refine tk 0 (some 112) rfl rfl (by kernel_rfl) (fun _ _ _=>id) (AK rfl _ rfl _ e10) hS ?_
   refine tk 1 (some 113) rfl rfl (by kernel_rfl) (fun _ _ _=>id) (AK rfl _ rfl _ ((BU (by decide)).trans e10)) hS ?_
   refine tk 2 (some 114) rfl rfl (by kernel_rfl) (fun _ _ _=>id) (AX rfl _ rfl _ (DZ (by simp only [AE,esz];decide))) hS ?_
   refine tk 3 (some 115) rfl rfl (by kernel_rfl) (fun _ _ _=>id) (Ka rfl _ rfl _ (DZ (by simp only [AE,esz];decide))) hS ?_
   refine tk 5 (some 117) rfl rfl (by kernel_rfl) (fun _ _ _=>id) (yieldsIf_load_mid (by simp [Region.wanted]) _ _ rfl wr.heap.size 0 ((BU (by decide)).trans ((BU (by decide)).trans ((BU (by decide)).trans ((BU (by decide)).trans e14)))) PP _ (fun w h=>h) Tryz.underlying80 rfl (AB HPZ)) hS ?_
   obtain ⟨A1,hA1⟩:∃A1,A1=((((A.put (some 112) (pq (w.heap.size+1) 0)).put (some 113) (pq (w.heap.size+1) 0)).put (some 114) (pq (w.heap.size+1) 0)).put (some 115) (pq (w.heap.size+1) 5)).put (some 117) (.agg PP.toArray):=⟨_,rfl⟩
   rw [<-hA1]
   have a112:A1.eval (.tmp 112)= pq (w.heap.size+1) 0:=by rw [hA1];exact (BU (by decide)).trans ((BU (by decide)).trans ((BU (by decide)).trans ((BU (by decide)).trans (DZ (by simp only [AE,esz];decide)))))
   have a115:A1.eval (.tmp 115)= pq (w.heap.size+1) 5:=by rw [hA1];exact (BU (by decide)).trans (DZ (by simp only [AE,esz];decide))
   have a117:A1.eval (.tmp 117)= .agg PP.toArray:=by rw [hA1];exact DZ (by simp only [AE,esz];decide)
   have s1:A1.tmps.size=137:=by rw [hA1];simp only [AE,esz]
   have HA1:=AC hA1
   clear hA1 e10 e14 esz
   have HLD:=AC (show ∀W:World,W.cell? (pK (w.heap.size+1) 5)=some (.slice none 0 0)->(Instr.loadAt 81 (pq (w.heap.size+1) 5)).run Tryz.prog W= .ok (.slice none 0 0) W from fun W hW=>by go_simp)
   have HSA:=AC (Om W8.drew wr.heap.size 0 PP (Obj.cells PP.toArray 80) (AB HR8))
   have HC5:=AC (show W8.drew.cell? (pK (w.heap.size+1) 5)=some (.slice none 0 0) from c5)
   refine wpAnyH_ready (rs:=[4,6]) (by kernel_rfl) (by simp) (AllReadyH.cons rfl (fun K hK=> ?_) (AllReadyH.cons rfl (fun K hK=> ?_) AllReadyH.nil))
   case' refine_1=>
    refine Pk rfl _ _ rfl _ a115 (.slice none 0 0) (AB HLD W8.drew (AB HC5)) (some 116) rfl ?_
    refine hK.out _ _ hS (fun _=> ?_)
    clear hK K
    refine rdy [6] (by kernel_rfl) (AllReadyH.cons rfl (fun K hK=> ?_) AllReadyH.nil)
    refine Gb rfl _ _ _ rfl PP ((BU (by decide)).trans a117) ip _ Tryz.underlying81 (AB HIP).1 (AB HIP).2.1 ((AB HIP).2.2.1.trans hpn.symm) (by omega) (by omega) W8.heap.size rfl (some 118) rfl ?_
    refine hK.out _ _ (AB HSA) (fun _=> ?_)
    clear hK K
    obtain ⟨A2,hA2⟩:∃A2,A2=(A1.put (some 116) (.slice none 0 0)).put (some 118) (.slice (some (pK W8.heap.size 0)) 1 1):=⟨_,rfl⟩
    rw [<-hA2]
    have a112':A2.eval (.tmp 112)= pq (w.heap.size+1) 0:=by rw [hA2];exact (BU (by decide)).trans ((BU (by decide)).trans a112)
    have a116:A2.eval (.tmp 116)= .slice none 0 0:=by rw [hA2];exact (BU (by decide)).trans (DZ (by rw [s1];decide))
    have a118:A2.eval (.tmp 118)= .slice (some (pK W8.heap.size 0)) 1 1:=by rw [hA2];exact DZ (by simp only [AE,s1];decide)
    have s2:A2.tmps.size=137:=by rw [hA2];simp only [AE,s1]
    have HA2:=AC hA2
    clear hA2
   case' refine_2=>
    refine Gb rfl _ _ _ rfl PP a117 ip _ Tryz.underlying81 (AB HIP).1 (AB HIP).2.1 ((AB HIP).2.2.1.trans hpn.symm) (by omega) (by omega) W8.heap.size rfl (some 118) rfl ?_
    refine hK.out _ _ (AB HSA) (fun _=> ?_)
    clear hK K
    refine rdy [4] (by kernel_rfl) (AllReadyH.cons rfl (fun K hK=> ?_) AllReadyH.nil)
    refine Pk rfl _ _ rfl _ ((BU (by decide)).trans a115) (.slice none 0 0) (AB HLD _ (by rw [World.cell?_alloc_lt _ _ _ hl8];exact AB HC5)) (some 116) rfl ?_
    refine hK.out _ _ (AB HSA) (fun _=> ?_)
    clear hK K
    obtain ⟨A2,hA2⟩:∃A2,A2=(A1.put (some 118) (.slice (some (pK W8.heap.size 0)) 1 1)).put (some 116) (.slice none 0 0):=⟨_,rfl⟩
    rw [<-hA2]
    have a112':A2.eval (.tmp 112)= pq (w.heap.size+1) 0:=by rw [hA2];exact (BU (by decide)).trans ((BU (by decide)).trans a112)
    have a116:A2.eval (.tmp 116)= .slice none 0 0:=by rw [hA2];exact DZ (by simp only [AE,s1];decide)
    have a118:A2.eval (.tmp 118)= .slice (some (pK W8.heap.size 0)) 1 1:=by rw [hA2];exact (BU (by decide)).trans (DZ (by rw [s1];decide))
    have s2:A2.tmps.size=137:=by rw [hA2];simp only [AE,s1]
    have HA2:=AC hA2
    clear hA2
   all_goals
    refine rdy [7] (by kernel_rfl) (AllReadyH.cons rfl (fun K hK=> ?_) AllReadyH.nil)
    refine step_append_lies _ rfl _ _ 81 rfl (w.heap.size+2) 80 ip _ 31 264 Tryz.underlying81 (AB HIP).1 (AB HIP).2.1 (AB HIP).2.2.1 (AB HIP).2.2.2 rfl (by decide) _ 0 [] a116 (World.ownsRow_nil _ _ _ _) (pK W8.heap.size 0) 1 1 PP a118 (by rw [hpn]) (AB HNP W8.drew) (AB HP1) (by omega) (by unfold maxLen;omega) (by omega) (by simp;omega) (W8.heap.size+1) (by simp) ?_
    intro g9 cap9 w9 hown9 hgrow9 hat9 hlt9
    have hg9:g9=W8.heap.size+1:=by rcases hat9 with h|h;simp [Value.ownBlock] at h;exact h
    have hS9:w9.rangeAt wr.heap.size 0 PP:=DQ (AB HSA) hgrow9 (by simp [Value.ownBlock])
    refine hK.out _ _ hS9 (fun _=> ?_)
    clear hK K
    change wpAnyH _ _ _ _ _ _ _ (A2.put (some 119) (.slice (some (pK g9 0)) 1 cap9)) _
    obtain ⟨A3,hA3⟩:∃A3,A3=A2.put (some 119) (.slice (some (pK g9 0)) 1 cap9):=⟨_,rfl⟩
    rw [<-hA3]
    have b112:A3.eval (.tmp 112)= pq (w.heap.size+1) 0:=by rw [hA3];exact (BU (by decide)).trans a112'
    have b119:A3.eval (.tmp 119)= .slice (some (pK g9 0)) 1 cap9:=by rw [hA3];exact DZ (by rw [s2];decide)
    have s3:A3.tmps.size=137:=by rw [hA3];simp only [AE,s2]
    have HA3:=AC hA3
    clear hA3
    refine tk 8 (some 120) rfl rfl (by kernel_rfl) (fun _ _ _=>id) (AX rfl _ rfl _ b112) hS9 ?_
    refine tk 9 (some 121) rfl rfl (by kernel_rfl) (fun _ _ _=>id) (Ka rfl _ rfl _ (DZ (by rw [s3];decide))) hS9 ?_
    refine rdy [10] (by kernel_rfl) (AllReadyH.cons rfl (fun K hK=> ?_) AllReadyH.nil)
    have k9:AG w9 (w.heap.size+1) 87 (k.cells (.slice (some (pK g 0)) k.inos.length cap)):=(((AB HK8).heap (W':=W8.drew) rfl).alloc (Obj.cells PP.toArray 80)).grown hgrow9 (by show some (w.heap.size+1)≠none;simp)
    have hst:(Instr.storeAt 81 (pq (w.heap.size+1) 5) (.slice (some (pK g9 0)) 1 cap9)).run Tryz.prog w9= .ok () (w9.setCell (pK (w.heap.size+1) 5) (.slice (some (pK g9 0)) 1 cap9)):=by
     have x5:=k9.cell (j:=5) rfl
     have y5:=k9.frozen 5
     go_simp
    refine De rfl _ _ _ rfl (pK (w.heap.size+1) 5) (.slice (some (pK g9 0)) 1 cap9) (DZ (by simp only [AE,s3];decide)) ((BU (by decide)).trans ((BU (by decide)).trans b119)) hst rfl ?_
    have hwk:w.heap.size+1≠wr.heap.size:=by have:=hgl;omega
    refine hK.out _ _ (DQ hS9 (AS (zk w9 (some (w.heap.size+1))) 5 _) (by simp;omega)) (fun _=> ?_)
    clear hK K
    refine wpAnyH_done (by kernel_rfl) ?_ _
    obtain ⟨W10,hW10⟩:∃W10,W10=w9.setCell (pK (w.heap.size+1) 5) (.slice (some (pK g9 0)) 1 cap9):=⟨_,rfl⟩
    have k10:AG W10 (w.heap.size+1) 87 ({k with pv:= .slice (some (pK g9 0)) 1 cap9}.cells (.slice (some (pK g 0)) k.inos.length cap)):=by rw [hW10];exact k9.set 5 _
    have g10:wr.grownBy W10 (some (w.heap.size+1)):=by
     rw [hW10]
     refine AS (World.grownBy.trans (b:=W8.drew.alloc (Obj.cells PP.toArray 80)) ?_ ⟨hgrow9.os,hgrow9.tape,hgrow9.output,hgrow9.size,fun i hi _=>hgrow9.block i hi (by simp [Value.ownBlock])⟩) 5 _
     refine World.grownBy.trans (b:=W8.drew) ?_ (World.grownBy_alloc _ _ _)
     rw [AB HW8]
     have hx:=World.grownBy_alloc wr (Obj.cells GK.toArray 80) (some (w.heap.size+1))
     exact ⟨hx.os,hx.tape,hx.output,hx.size,hx.block⟩
    have o10:W10.ownsRow (w.heap.size+2) 80 31 (.slice (some (pK g9 0)) 1 cap9) 1 GK:=by
     rw [hW10,<-AB HPP]
     exact hown9.kept (AS (zk w9 (some (w.heap.size+1))) 5 _) (.inr (by show some g9≠some (w.heap.size+1);simp;omega))
    have c10:W10.cell? (pK (w.heap.size+1) 5)=some (.slice (some (pK g9 0)) 1 cap9):=k10.cell rfl
    rw [<-hW10]
    have hs9:=hgrow9.size
    have hs10:w9.heap.size=W10.heap.size:=by rw [hW10];simp
    have hg9l:wr.heap.size<=g9:=by have:=AB HS8;omega
    have HEX:=AC (X5 lp lf lo li lb FZ w wr hn (AB HSUM) k cs g cap (AB HBA) (W10.alloc (Obj.cells #[.string BI] 9)) g9 cap9 (g10.trans (World.grownBy_alloc _ _ _)) (k10.alloc _) (o10.alloc _) hg9l W10.heap.size 1 (by simp) (by have:=(AG.new W10 9 [.string BI]).cell (j:=0) rfl;exact this))
    rw [AB HA3,AB HA2,AB HA1,AB HA]
    simp only [Act.put,zm,zi,zj]
    clear hgrow9 hat9 hlt9 hg9 hS9 hs9 hs10 k9 k10 g10 o10 hown9 hst hW10 HA HA1 HA2 HA3 s1 s2 s3 a112 a115 a117 a112' a116 a118 b112 b119 hS
    go_wp2_with fail
    refine (AB HEX).mono ?_
    rintro e w11 ⟨c1,rfl,hb11,hne,hok⟩
    have HB11:=AC hb11
    have HNE:=AC hne
    have HOK:=AC hok
    clear hb11 hne hok HEX
    by_cases hz:c1=0
    ·subst hz
     have HOK2:=AC (AB HOK rfl)
     clear HOK HNE
     go_wp2
     go_ret2
     exact ⟨AB HB11,.inr ⟨(AB HOK2).1,rfl,(AB HOK2).2⟩⟩
    ·have hz2:(c1 !=0)=true:=by simpa using hz
     have HX:=AC (AB HNE hz)
     clear hz HOK HNE
     go_wp2
     go_ret2
     exact ⟨AB HB11,.inl ⟨c1,AB HX,rfl⟩⟩
end
section
open Go Go.RowKit
theorem MT {P:Program} {ops:Array Oper} {rest:List Oper} {o:Oper} {a:Act} {w:World} {Q:Exit->Act->World->Prop} (hgd:o.guard=none) (d s:Operand) (dT sT:TypeId)
  (ho:o.op= .call {callee:= .builtin .copy,args:=#[d,s],argTypes:=#[dT,sT]}) (elem:TypeId) (hu:P.underlying dT=some (.slice elem)) (hsz:(P.info? elem).map (·.size)=some 1)
  (g off dLen dCap:Nat) (str:ByteArray) (hd:a.eval d= .slice (some (pK g off)) dLen dCap) (hs:a.eval s= .string str)
  (cur:List Value) (t:TypeId) (hg:AG w g t cur) (hle:str.size<=dLen) (hfit:off+str.size<=cur.length)
  (h:∀w',Hid (AG w' g t (splice cur off (Lib.byteCells str.data.toList)))->w.grownBy w' (some g)->wpList P ops Q rest (a.put o.dst (goInt str.size)) w'):wpList P ops Q (o::rest) a w:=by
 refine wpList_plain hgd fun K hK=> ?_
 have:=Gm (P:=P) (ops:=ops) (o:=o) (a:=a) (w:=w) (K:=K) (Q:=Q) (E:=True) hgd d s dT sT ho elem hu hsz g off dLen dCap str hd hs cur t hg hle hfit (fun w' h1 h2=>hK _ _ (h w' h1 h2))
 have hw:Region.wanted o (yielded ops a.tmps)=true:=by simp [Region.wanted,hgd]
 rw [if_pos hw] at this
 exact this
def FB:List Int:=[127,69,76,70,2,1,1]++List.replicate 253 0
def Dg:List Int:=((((((((((((((FB.set 16 2).set 18 243).set 20 1).set 25 1).set 32 64).set 52 64).set 54 56).set 56 1).set 64 1).set 68 5).set 73 1).set 81 1).set 96 4).set 104 4).set 256 22
theorem Y4:splice (AJ (List.replicate 260 0)) 0 (Lib.byteCells [127,69,76,70,2,1,1])=AJ FB:=by kernel_rfl
theorem bu (w:World):Calls Tryz.prog 7 #[] w fun e w'=>e= .returned (.slice (some (pK w.heap.size 0)) 260 260)/\AG w' w.heap.size 5 (AJ Dg)/\Below w.heap.size w w':=by
 obtain ⟨Z,hZ⟩:∃Z,Z=Bx 260:=⟨_,rfl⟩
 have hmk:∀w,(Instr.makeSlice 32 (.int .i64 260) (.int .i64 260)).run Tryz.prog w= .ok (.slice (some (pK w.heap.size 0)) 260 260) (w.alloc (.cells Z 5)):=by
  intro w
  have:=run_make_row' (P:=Tryz.prog) 32 5 (.int .u8 0) 1 Tryz.underlying32 Mt rfl .i64 .i64 260 (by decide) (by decide) w
  rw [hZ]
  rwa [GF] at this
 have HZ:=AC (show AG (w.alloc (.cells Z 5)) w.heap.size 5 (AJ (List.replicate 260 0)) from by rw [hZ];exact AG.new w 5 _)
 have HB:=AC (show Below w.heap.size w (w.alloc (.cells Z 5)) from (zw _ _).alloc (zx _) _)
 clear hZ
 go_enter Tryz.func7,Tryz.ntmps7
 go_upto_region 3 with (refine MT rfl _ _ 32 9 rfl 5 Tryz.underlying32 Le w.heap.size 0 260 260 _ (by rfl) (by rfl) _ _ (AB HZ) (by decide) (by rw [AM];decide) ?_;intro w1 H1 hg1)
 have hh:AG w1 w.heap.size 5 (AJ FB):=by rw [<-Y4];exact AB H1
 have hb:Below w.heap.size w w1:=(AB HB).trans (Ag hg1 (zx _) (by simp))
 obtain ⟨x16,c16⟩:∃x,w1.cell? (pK w.heap.size 16)=some (.int .u8 x):=⟨_,hh.cell (AT FB 16 (by decide))⟩
 have f16:=hh.frozen 16
 obtain ⟨x18,c18⟩:∃x,w1.cell? (pK w.heap.size 18)=some (.int .u8 x):=⟨_,hh.cell (AT FB 18 (by decide))⟩
 have f18:=hh.frozen 18
 obtain ⟨x20,c20⟩:∃x,w1.cell? (pK w.heap.size 20)=some (.int .u8 x):=⟨_,hh.cell (AT FB 20 (by decide))⟩
 have f20:=hh.frozen 20
 obtain ⟨x25,c25⟩:∃x,w1.cell? (pK w.heap.size 25)=some (.int .u8 x):=⟨_,hh.cell (AT FB 25 (by decide))⟩
 have f25:=hh.frozen 25
 obtain ⟨x32,c32⟩:∃x,w1.cell? (pK w.heap.size 32)=some (.int .u8 x):=⟨_,hh.cell (AT FB 32 (by decide))⟩
 have f32:=hh.frozen 32
 obtain ⟨x52,c52⟩:∃x,w1.cell? (pK w.heap.size 52)=some (.int .u8 x):=⟨_,hh.cell (AT FB 52 (by decide))⟩
 have f52:=hh.frozen 52
 obtain ⟨x54,c54⟩:∃x,w1.cell? (pK w.heap.size 54)=some (.int .u8 x):=⟨_,hh.cell (AT FB 54 (by decide))⟩
 have f54:=hh.frozen 54
 obtain ⟨x56,c56⟩:∃x,w1.cell? (pK w.heap.size 56)=some (.int .u8 x):=⟨_,hh.cell (AT FB 56 (by decide))⟩
 have f56:=hh.frozen 56
 obtain ⟨x64,c64⟩:∃x,w1.cell? (pK w.heap.size 64)=some (.int .u8 x):=⟨_,hh.cell (AT FB 64 (by decide))⟩
 have f64:=hh.frozen 64
 obtain ⟨x68,c68⟩:∃x,w1.cell? (pK w.heap.size 68)=some (.int .u8 x):=⟨_,hh.cell (AT FB 68 (by decide))⟩
 have f68:=hh.frozen 68
 obtain ⟨x73,c73⟩:∃x,w1.cell? (pK w.heap.size 73)=some (.int .u8 x):=⟨_,hh.cell (AT FB 73 (by decide))⟩
 have f73:=hh.frozen 73
 obtain ⟨x81,c81⟩:∃x,w1.cell? (pK w.heap.size 81)=some (.int .u8 x):=⟨_,hh.cell (AT FB 81 (by decide))⟩
 have f81:=hh.frozen 81
 obtain ⟨x96,c96⟩:∃x,w1.cell? (pK w.heap.size 96)=some (.int .u8 x):=⟨_,hh.cell (AT FB 96 (by decide))⟩
 have f96:=hh.frozen 96
 obtain ⟨x104,c104⟩:∃x,w1.cell? (pK w.heap.size 104)=some (.int .u8 x):=⟨_,hh.cell (AT FB 104 (by decide))⟩
 have f104:=hh.frozen 104
 obtain ⟨x256,c256⟩:∃x,w1.cell? (pK w.heap.size 256)=some (.int .u8 x):=⟨_,hh.cell (AT FB 256 (by decide))⟩
 have f256:=hh.frozen 256
 have HH:=AC (show AG _ w.heap.size 5 (AJ Dg) from by
  have h:=(((((((((((((((hh.set 16 (.int .u8 2)).set 18 (.int .u8 243)).set 20 (.int .u8 1)).set 25 (.int .u8 1)).set 32 (.int .u8 64)).set 52 (.int .u8 64)).set 54 (.int .u8 56)).set 56 (.int .u8 1)).set 64 (.int .u8 1)).set 68 (.int .u8 5)).set 73 (.int .u8 1)).set 81 (.int .u8 1)).set 96 (.int .u8 4)).set 104 (.int .u8 4)).set 256 (.int .u8 22))
  simp only [Co] at h
  exact h)
 have HBB:=AC (((((((((((((((hb.setCell (p:=(pK w.heap.size 16)) (zx _) (.int .u8 2)).setCell (p:=(pK w.heap.size 18)) (zx _) (.int .u8 243)).setCell (p:=(pK w.heap.size 20)) (zx _) (.int .u8 1)).setCell (p:=(pK w.heap.size 25)) (zx _) (.int .u8 1)).setCell (p:=(pK w.heap.size 32)) (zx _) (.int .u8 64)).setCell (p:=(pK w.heap.size 52)) (zx _) (.int .u8 64)).setCell (p:=(pK w.heap.size 54)) (zx _) (.int .u8 56)).setCell (p:=(pK w.heap.size 56)) (zx _) (.int .u8 1)).setCell (p:=(pK w.heap.size 64)) (zx _) (.int .u8 1)).setCell (p:=(pK w.heap.size 68)) (zx _) (.int .u8 5)).setCell (p:=(pK w.heap.size 73)) (zx _) (.int .u8 1)).setCell (p:=(pK w.heap.size 81)) (zx _) (.int .u8 1)).setCell (p:=(pK w.heap.size 96)) (zx _) (.int .u8 4)).setCell (p:=(pK w.heap.size 104)) (zx _) (.int .u8 4)).setCell (p:=(pK w.heap.size 256)) (zx _) (.int .u8 22))
 clear hh hb H1 hg1 HZ HB hmk
 go_wp2
 go_ret
 exact ⟨rfl,AB HH,AB HBB⟩
end
end Go.Proofs.YtdchgbmliojoiaaGreatDoor
