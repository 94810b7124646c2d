import Derived.Test.YtdchgbmliojoiaaGreatDoorG38
import Derived.Test.YtdchgbmliojoiaaGreatDoorG33
import Derived.Test.YtdchgbmliojoiaaGreatDoorG36
set_option maxRecDepth 100000
set_option maxHeartbeats 8000000
set_option linter.unusedVariables false
set_option linter.unusedSimpArgs false
namespace Go.Proofs.YtdchgbmliojoiaaGreatDoor
section
open Go Go.RowKit Go.Maps
theorem N7 (w:World):Calls Tryz.prog 121 #[.slice none 0 0] w fun e w'=>e= .returned (.tuple #[.int .i64 0,.bool false])/\w'=w:=by
 go_enter Tryz.func121,Tryz.ntmps121
 go_wp2
 go_ret2
 exact ⟨rfl,rfl⟩
theorem bV (w:World):Calls Tryz.prog 71 #[.slice none 0 0] w fun e w'=>e=GX 2/\Below w.heap.size w w':=by
 have HH:=AC (N7 (w.alloc (.cells #[.int .u64 0,.slice none 0 0] 199)))
 go_enter Tryz.func71,Tryz.ntmps71
 go_wp2_with fail
 refine (AB HH).mono ?_
 rintro e w1 ⟨rfl,hw1⟩
 have hR1:AG w1 w.heap.size 199 [.int .u64 0,.slice none 0 0]:=by rw [hw1];exact AG.new w 199 _
 have hbl1:Below w.heap.size w w1:=by rw [hw1];exact (zw w.heap.size w).alloc (zx _) _
 have c0:w1.cell? (pK w.heap.size 0)=some (.int .u64 0):=hR1.cell rfl
 have c1:w1.cell? (pK w.heap.size 1)=some (.slice none 0 0):=hR1.cell rfl
 have f0:=hR1.frozen 0
 have f1:=hR1.frozen 1
 obtain ⟨d0,d1,d2⟩:=Ij hR1 hbl1
 have D2:=AC d2
 clear d2 hw1 hR1 hbl1 HH
 go_wp2
 exact bodyPost_ret (v:= .tuple #[Fl,.iface 47 (.int .i64 2)]) (by simp [results,Tryz.results71,go_sem,Fl,d0,d1]) rfl ⟨rfl,AB D2⟩
theorem Yf {B:Nat} {v:Value} {c:List Int} (w:World) (hv:FW w B v c) (hb:AY c) (hl:c.length<=500000) (ht:w.rangeAt 1 0 EU) (hgw:1<w.heap.size):
  Calls Tryz.prog 71 #[v] w fun e w'=>Below w.heap.size w w'/\((∃k,Bad c k/\e=GX k)\/(KU c/\∃g gc,e= .returned (.tuple #[.agg #[.int .u64 (AW c 24 8),.slice (some (pK g 0)) (Am c).length gc],.nilIface])/\w'.ownsRow w.heap.size 166 258 (.slice (some (pK g 0)) (Am c).length gc) (Am c).length (BG (Am c)))):=by
 rcases hv with ⟨rfl,rfl⟩|⟨R,cp,T,rfl,hR,hcp,_,_⟩
 ·refine (bV w).mono fun e w' h=>⟨h.2,.inl ⟨2,.inl ⟨fun q=> ?_,rfl⟩,h.1⟩⟩
  have:=q.1
  simp at this
 ·refine (Zd R 0 cp c w hb (by omega) hl (fun j hj=> ?_) hR.lt ht hgw).mono fun e w' h=>⟨h.2,Xh hb h⟩
  rw [zq]
  refine hR.cell ?_
  rw [Fo,zp (by rw [AM];exact hj)]
  exact AT c j hj
theorem Yg:∀args w,(callFunc 74 args).run Tryz.prog w= .ok (.enter 74 args) w:=enters_of Tryz.func74 (by kernel_rfl) rfl
theorem VZ:∀args w,(callFunc 75 args).run Tryz.prog w= .ok (.enter 75 args) w:=enters_of Tryz.func75 (by kernel_rfl) rfl
theorem O8:∀args w,(callFunc 76 args).run Tryz.prog w= .ok (.enter 76 args) w:=enters_of Tryz.func76 (by kernel_rfl) rfl
theorem Wi (R:List Int):CF R 2=BG (Cp R):=by
 unfold CF Cp BG
 simp
theorem RY {PS:List Pg} (h:As PS):PS.length<=256:=by
 have:=G0 PS 256
 rwa [JB h] at this
theorem O9 (j:Nat) (h:j<65792):Ah[j]? =some (.int .u8 0):=by
 unfold Ah
 rw [xw,if_pos h]
theorem N9 {w:World} {pb:Nat} {E:Int} {R:List Int} {pid par st su wk:Int} {fds:List Value} (hR:R.length=16) (h:AG w pb 195 (AZ E R Ah pid par st su wk fds)):Gc w pb []:=fun j hj=>by
 refine h.cell ?_
 have h1:(Value.int .u64 E::R.map (Value.int .u64)).length=17:=by simp [hR]
 unfold AZ Cg
 rw [zp (by rw [zn,h1,Ca];omega),zo (by omega),h1,yj]
 exact O9 _ (by omega)
theorem eI:As []:=⟨List.Pairwise.nil,fun p hp=>by cases hp⟩
theorem Va (x:Int):Cb.set 15 x=List.replicate 15 0++[x]:=rfl
def GB (p:PK) (s:ByteArray) (ss:List ByteArray) (pb:Nat) (pid par:Int) (fds:List Value) (w:World) (e:Ending) (w':World):Prop:=
 (∃c,p.ExecErr [0] 0 s ss c/\e=Br c/\Below w.heap.size w w')\/
 (p.ExecOk [0] 0 s ss/\e= .returned .nilIface/\Bk w w' [pb]/\AG w' pb 195 (AZ (AW (p.fileOf s) 24 8) (List.replicate 15 0++[65024+(EE ss:Int)]) (Af (Am (p.fileOf s)++Cp (Aa ss))) pid par 0 0 0 fds))
theorem Tm (p:PK) (B tb ab am kb pm pb cb q so cap:Nat) (a:Option Addr) (pid par mm:Int) (fds:List Value) (NB MB:List Nat) (V:List Value) (s:ByteArray) (ss:List ByteArray) (w:World)
  (hr:BY w B tb ab am p NB MB V) (hi:Bo p) (hby:CC p.cs) (hu:AU p.cs<=500000) (hlen:p.xs.length<=900000) (hli:0<=p.li/\p.li<=1000000) (hul:(AU p.cs:Int)<=p.lb/\p.lb<=1000000) (hlf:0<=p.lf/\p.lf<=1000000)
  (hk:AG w kb 112 (EQ p.lp p.lf p.lo p.li p.lb tb cb pm)) (hm:A6 w pm pb) (hp:AG w pb 195 (AZ 0 Cb Ah pid par 0 0 0 fds)) (hfd:∀v∈fds,v.oneCell'=true)
  (hsn:ss.length<=1000) (ha:0<ss.length->a=some (pK q so)) (hq:q<w.heap.size) (hcell:∀i,i<ss.length->w.cell? (pK q (so+i))=some (.string (ss.getD i ByteArray.empty)))
  (hs:s.size<=maxLen) (ht:w.rangeAt 1 0 EU) (hgw:1<w.heap.size) (hmm:w.cell? (pK 3 0)=some (.int .i64 mm)) (hml:3<w.heap.size):
  Calls Tryz.prog 35 #[pq kb 0,pq pb 0,.string s,.slice a ss.length cap] w (GB p s ss pb pid par fds w):=by
 have c5:w.cell? (pK kb 5)=some (pq tb 0):=hk.cell rfl
 have HFW:=AC (VY p B tb ab am (AU p.cs) NB MB V s mm w hr.tree hi hlen hli ⟨by omega,hul.1⟩ hul.2 hs hmm hml)
 have HR:=AC hr
 have HI:=AC hi
 have HK:=AC hk
 have HM:=AC hm
 have HPR:=AC hp
 have HNM:=AC (show CC p.cs/\AU p.cs<=500000/\p.xs.length<=900000/\(0<=p.lf/\p.lf<=1000000)/\ss.length<=1000/\q<w.heap.size/\1<w.heap.size from ⟨hby,hu,hlen,hlf,hsn,hq,hgw⟩)
 have HAR:=AC (And.intro ha hcell)
 have HT:=AC ht
 have HFD:=AC hfd
 clear hr hi hk hm hp hby hu hlen hlf hli hul hsn ha hq hcell ht hgw hmm hml hs hfd
 go_enter Tryz.func35,Tryz.ntmps35
 go_wp2_with fail
 refine (AB HFW).mono ?_
 rintro e w3 ⟨hb3,(⟨he,rfl⟩|⟨he,i,x,c,y1,y2,y3,hxf,hwe,hn,rfl⟩)⟩
 ·have HP:=AC (show GB p s ss pb pid par fds w (Br (C5 p s)) w3 from .inl ⟨_,by
   unfold C5 at he ⊢
   by_cases q1:(AN p.xs s).e=0
   ·rw [if_neg (by simpa using q1)] at he ⊢
    by_cases q2:(AN p.xs s).n=0
    ·rw [if_pos q2]
     exact .inr ⟨q1,.inl ⟨q2,rfl⟩⟩
    ·rw [if_neg q2] at he ⊢
     by_cases q3:CI p.xs (AN p.xs s).n=true
     ·rw [if_pos q3]
      exact .inr ⟨q1,.inr ⟨q2,.inl ⟨q3,rfl⟩⟩⟩
     ·rw [if_neg q3] at he;exact absurd rfl he
   ·rw [if_pos q1]
    exact .inl ⟨q1,rfl⟩,rfl,hb3⟩)
  clear hb3 he HFW c5
  unfold Mb
  go_wp2
  go_ret
  exact AB HP
 ·have HB3:=AC hb3
  have HR3:=AC ((AB HR).below hb3)
  have HE:=AC hwe
  clear hb3 he hwe HFW c5
  ·-- a file is there
   have hil:=(zy.1 y1).1
   obtain ⟨fc,hfc⟩:∃fc,p.cs[i]? =some fc:=⟨_,zz (by rw [(AB HI).len];exact hil)⟩
   have hfo:p.fileOf s=fc:=by
    unfold PK.fileOf
    rw [<-y2,LC (AB HI).incr y1,zl,show ((i:Int)).toNat=i from rfl,hfc]
    rfl
   obtain ⟨mi,hmi⟩:∃mi,MB[i]? =some mi:=⟨_,zz (by rw [(AB HR3).tree.len.2];exact hil)⟩
   obtain ⟨qn,v1,mv1,z1,_,z3,_⟩:=(AB HR3).tree.node i x c mi y1 y3 hmi
   have hcv:=(AB HR3).cont i v1 fc z3 hfc
   obtain ⟨va,vc,hvs⟩:=hcv.len
   rw [hvs] at z1 hcv
   have hdirf:CI p.xs (AN p.xs s).n=false:=by rw [<-y2,Fh (AB HI).incr y1,hxf]
   have HFO:=AC hfo
   have HZ1:=AC z1
   have HCV:=AC hcv
   have HDF:=AC (And.intro hn hdirf)
   have HFL:=AC (show fc.length<=500000/\AY fc from ⟨by have:=JG hfc;have:=(AB HNM).2.1;omega,(AB HNM).1 fc (zv hfc)⟩)
   clear hil hfc hfo hmi z3 hcv hvs hdirf y1 y2 y3 hxf hn
   have HB4:=HB3
   have HBY:=AC (Oq c va fc.length vc w3 ((AB HZ1).cell rfl))
   have HLD:=AC (Yf w3 (AB HCV) (AB HFL).2 (AB HFL).1 (fun j v hj=>by rw [(AB HB4).cell (p:=(pK 1 (0+j))) (AB HNM).2.2.2.2.2.2];exact AB HT j v hj) (by have:=(AB HNM).2.2.2.2.2.2;have:=(AB HB4).size;omega))
   clear z1 HZ1 HCV
   go_wp2_with fail
   refine (AB HBY).mono ?_
   rintro e w4' ⟨rfl,hw4⟩
   subst hw4
   clear HBY
   go_wp2_with fail
   refine (AB HLD).mono ?_
   rintro e w5 ⟨hb5,(⟨kk,hbad,rfl⟩|⟨hgood,g,gc,rfl,how5⟩)⟩
   ·have hcode:=hbad.code
    have hk0:(kk==0)=false:=by simp;omega
    have HP:=AC (show GB p s ss pb pid par fds w (Br kk) (w5.alloc (Obj.cells #[.int .u64 0,.slice none 0 0] 199)) from .inl ⟨kk,.inr ⟨AB HE,.inr ⟨(AB HDF).1,.inr ⟨(AB HDF).2,.inl (by rw [AB HFO];exact hbad)⟩⟩⟩,rfl,((AB HB4).trans (hb5.mono (AB HB4).size)).alloc (zh (AB HB4).size hb5.size) _⟩)
    unfold GX Fl
    clear hbad hcode hb5 HLD
    go_wp2
    go_ret
    exact AB HP
   obtain ⟨W6,hW6⟩:∃W6,W6=w5.alloc (Obj.cells #[.int .u64 (AW fc 24 8),.slice (some (pK g 0)) (Am fc).length gc] 199):=⟨_,rfl⟩
   have h6:AG W6 w5.heap.size 199 [.int .u64 (AW fc 24 8),.slice (some (pK g 0)) (Am fc).length gc]:=by rw [hW6];exact AG.new w5 199 _
   have hb6:Below w5.heap.size w5 W6:=by rw [hW6];exact (zw _ _).alloc (zx _) _
   have HB6:=AC ((AB HB4).trans ((hb5.trans (hb6.mono hb5.size)).mono (AB HB4).size))
   have how6:=BO how5 (AC hb6)
   have hgl:=how5.lt g rfl
   have hnl:(Am fc).length<=256:=J7 hgood
   obtain ⟨n0,hn0⟩:∃n0,n0=(Am fc).length:=⟨_,rfl⟩
   obtain ⟨E,hE⟩:∃E,E=AW fc 24 8:=⟨_,rfl⟩
   rw [<-hn0,<-hE] at hW6 h6
   rw [<-hn0] at how6 hnl
   rw [<-hn0,<-hE]
   have hgl5:w4'.heap.size<=g/\g<w5.heap.size:=⟨hgl.1,hgl.2⟩
   obtain ⟨QB,hQB⟩:∃QB,QB=w5.heap.size:=⟨_,rfl⟩
   have HGL:=AC (show w4'.heap.size<=g/\g<QB/\w.heap.size<=w4'.heap.size/\QB<W6.heap.size from ⟨hgl5.1,by omega,(AB HB4).size,by rw [hQB];exact h6.lt⟩)
   have HGD:=AC hgood
   have HN0:=AC (And.intro hn0 hE)
   have H6:=AC h6
   have HOW6:=AC how6
   have HW6:=AC hW6
   clear hgood how5 hb5 hb6 how6 hgl hgl5 hn0 hE h6 hW6 HLD
   go_upto_region 7 with fail
   rw [<-AB HW6]
   rw [<-hQB] at H6 ⊢
   clear hQB HW6
   have hac:∀j,j<ss.length->W6.cell? (pK q (so+j))=some (.string (ss.getD j ByteArray.empty)):=fun j hj=>by rw [(AB HB6).cell (p:=(pK q (so+j))) (AB HNM).2.2.2.2.2.1];exact (AB HAR).2 j hj
   by_cases hok:CZ ss=true
   case neg=>
    have hok':CZ ss=false:=by simpa using hok
    have HST:=AC (Oj a q so cap ss W6 (AB HNM).2.2.2.2.1 (AB HAR).1 hac hok')
    have HP:=AC (show GB p s ss pb pid par fds w (Br 6) W6 from .inl ⟨6,.inr ⟨AB HE,.inr ⟨(AB HDF).1,.inr ⟨(AB HDF).2,.inr ⟨by rw [AB HFO];exact AB HGD,.inl ⟨hok',rfl⟩⟩⟩⟩⟩,rfl,AB HB6⟩)
    clear hok hok' hac
    go_wp2_with fail
    refine (AB HST).mono ?_
    rintro e w7 ⟨rfl,hw7⟩
    subst hw7
    go_wp2
    go_ret
    exact AB HP
   have HST:=AC (Ye a q so cap ss W6 (AB HNM).2.2.2.2.1 (AB HAR).1 (by have:=(AB HNM).2.2.2.2.2.1;have:=(AB HB6).size;omega) hac hok)
   have HOK:=AC hok
   clear hok hac
   go_wp2_with fail
   refine (AB HST).mono ?_
   rintro e w7 ⟨g5,rfl,hst7,hg5,hb7⟩
   have hs7:=hb7.size
   have HB7:=AC ((AB HB6).trans (hb7.mono (AB HB6).size))
   have h67:=(AB H6).below hb7 (AB H6).lt
   have d0:w7.cell? (pK QB 0)=some (.int .u64 E):=h67.cell rfl
   have d1:w7.cell? (pK QB 1)=some (.slice (some (pK g 0)) n0 gc):=h67.cell rfl
   have HOW7:=AC (BO (AB HOW6) (AC hb7))
   obtain ⟨ip,hip,hpz0,hpz1,hpz2⟩:=info_parts KS
   have HIP:=AC (And.intro hip (And.intro hpz0 (And.intro hpz1 hpz2)))
   have hRl:=Cc (AB HOK)
   have hSl:(CF (Aa ss) 2).length=2*258:=Ih _ hRl 2
   have hS1:∀u∈CF (Aa ss) 2,u.oneCell'=true:=by rw [Wi];exact M6 _
   obtain ⟨SR,hSR⟩:∃SR,SR=CF (Aa ss) 2:=⟨_,rfl⟩
   rw [<-hSR] at hSl hS1 hst7
   have HSR:=AC (And.intro hSR hRl)
   have HSL:=AC (And.intro hSl hS1)
   have HNW:=AC (GH (AC hst7))
   have hbase7:w4'.heap.size<=w7.heap.size:=by have:=AB HGL;omega
   have HS7:=AC (show w.heap.size<=w7.heap.size/\QB<w7.heap.size from ⟨(AB HB7).size,h67.lt⟩)
   clear hst7 hip hpz0 hpz1 hpz2 hRl hSl hS1 hSR h67 hb7 hg5 HST HOW6 H6 hs7
   go_upto_region 11 with (at_builtin;refine wpList_append_lies _ (by rfl) _ _ 160 (by rfl) w4'.heap.size 166 ip _ 258 272 Tryz.underlying160 (AB HIP).1 (AB HIP).2.1 (AB HIP).2.2.1 (AB HIP).2.2.2 (by show C7.toArray.size=258;simp [EH]) (by decide) _ n0 _ (by rfl) (AB HOW7) (pK g5 0) 2 2 SR (by rfl) (AB HSL).1 (AB HNW) (AB HSL).2 (by omega) (by unfold maxLen;omega) (by omega) hbase7 w7.heap.size (by rfl) ?_;intro g8 c8 w8 hown8 hgrow8 hat8 hlt8)
   have hgrow8:w7.grownBy w8 (some g):=hgrow8
   have hgg:=AB HGL
   have hb8:Below w.heap.size w w8:=(AB HB7).trans (Ag hgrow8 (by omega) (AB HS7).1)
   have d08:w8.cell? (pK QB 0)=some (.int .u64 E):=hgrow8.cell d0 (by simp;omega)
   obtain ⟨PS,hPS⟩:∃PS,PS=Am fc++Cp (Aa ss):=⟨_,rfl⟩
   have hPok:As PS:=by rw [hPS];exact Wh (AB HGD) _ (AB HSR).2
   have hPl:PS.length=n0+2:=by rw [hPS,zn,<-(AB HN0).1];rfl
   have hPn:=RY hPok
   obtain ⟨NN,hNN⟩:∃NN,NN=n0+2:=⟨_,rfl⟩
   have hap:Gy w8 g8 PS:=by
    refine Zh (base:=w4'.heap.size) (gc:=c8) (fun q hq=>(hPok.each q hq).2.2.2.2) ?_
    rw [hPl,show BG PS=BG (Am fc)++SR by rw [hPS,Gq,(AB HSR).1,Wi]]
    exact hown8
   have hNN0:(0:Int)<=(NN:Int)/\(NN:Int)<=256:=by omega
   rw [<-hNN]
   have hPl:PS.length=NN:=by omega
   obtain ⟨LF,hLF⟩:∃LF,LF=p.lf:=⟨_,rfl⟩
   have hlf:=(AB HNM).2.2.2.1
   rw [<-hLF] at hlf
   have hKm:∀ww,Below w8.heap.size w8 ww->Below w.heap.size w ww:=fun ww h=>hb8.trans (h.mono hb8.size)
   have HKM:=AC hKm
   have HFR:=AC (show ∀ww,Below w8.heap.size w8 ww->Calls Tryz.prog 74 #[pq kb 0] ww fun e w'=>e= .returned (.int .i64 LF)/\Below ww.heap.size ww w' from fun ww hh=>by
    have hw:=hKm ww hh
    refine (Nc kb pm pb p.lp p.lf p.lo p.li p.lb tb cb [] ww ((AB HK).below hw (AB HK).lt) ((AB HM).kept (A7 hw) (by simp)) (by have:=(AB HPR).lt;have:=hw.size;omega) (N9 Cs ((AB HPR).below hw (AB HPR).lt)) eI (by simp) (by rw [<-hLF];exact hlf)).mono ?_
    rintro e w' ⟨rfl,h⟩
    exact ⟨by rw [<-hLF];simp,h⟩)
   have HCT:=AC (show ∀ww,Below w8.heap.size w8 ww->Calls Tryz.prog 75 #[pq pb 17] ww fun e w'=>e= .returned (.int .i64 0)/\Below ww.heap.size ww w' from fun ww hh=>by
    have hw:=hKm ww hh
    refine (Kw pb 17 [] ww eI (N9 Cs ((AB HPR).below hw (AB HPR).lt))).mono ?_
    rintro e w' ⟨rfl,h⟩
    subst h
    exact ⟨rfl,zw _ _⟩)
   obtain ⟨qb,hqb⟩:∃qb:Bool,qb=decide (LF<(NN:Int)):=⟨_,rfl⟩
   have R9:=AC (show ∀w':World,((do eqGuard .add 3 (.tmp 52) (.tmp 57) (.int .i64 LF) (.int .i64 0);binOp .add 3 (.int .i64 LF) (.int .i64 0):Sem Value)).run Tryz.prog w'= .ok (.int .i64 LF) w' from fun w'=>by
    have h1:=hlf.1
    have h2:=hlf.2
    clear hKm hap hPok hb8 d08 hgrow8 hown8 hat8 d0 d1
    go_simp
    try (rw [yl];omega))
   have R10:=AC (show ∀w':World,((do eqGuard .gtr 3 (.tmp 50) (.tmp 58) (.int .i64 (NN:Int)) (.int .i64 LF);binOp .gtr 3 (.int .i64 (NN:Int)) (.int .i64 LF):Sem Value)).run Tryz.prog w'= .ok (.bool qb) w' from fun w'=>by
    rw [hqb]
    clear hKm hap hPok hb8 d08 hgrow8 hown8 hat8 d0 d1 hqb
    go_simp)
   have HQB:=AC hqb
   have HLF:=AC (And.intro hLF hlf)
   have HAP:=AC (show Gy w8 g8 PS/\g8<w8.heap.size from ⟨hap,hlt8⟩)
   have HPS:=AC (show PS=Am fc++Cp (Aa ss)/\As PS/\PS.length=NN/\NN=n0+2 from ⟨hPS,hPok,hPl,hNN⟩)
   have HB8:=AC hb8
   have HD08:=AC d08
   have HQL:=AC (show QB<w8.heap.size from by have:=(AB HS7).2;have:=hgrow8.size;omega)
   have hbd:Below w8.heap.size w8 w8.drew:=⟨rfl,rfl,rfl,zx _,fun _ _=>rfl⟩
   have HBD:=AC hbd
   clear hgg hb8 d08 hPS hPok hPl hPn hap hNN hNN0 hLF hlf hKm hqb hbd hown8 hgrow8 hat8 hlt8 d0 d1 HOW7 HIP HNW HSL hbase7
   refine BA ?_
   intro A hA
   have e0:A.eval (.tmp 0)= pq kb 0:=by rw [hA];rfl
   have e1:A.eval (.tmp 1)= pq pb 0:=by rw [hA];rfl
   have e15:A.eval (.tmp 14)= .slice (some (pK g8 0)) NN c8:=by rw [hA];rfl
   have esz:A.tmps.size=75:=by rw [hA];rfl
   have HA14:=AC hA
   clear hA
   refine wp_region_held_drew (S:=fun _=>True) (by kernel_rfl) trivial (fun hS=> ?_)
   refine tk 0 (some 49) rfl rfl (by kernel_rfl) (fun _ _ _=>id) (AK rfl _ rfl (.slice (some (pK g8 0)) NN c8) (by simp [AF,AE,esz,e0,e1,e15])) hS ?_
   refine tk 1 (some 50) rfl rfl (by kernel_rfl) (fun _ _ _=>id) (Nb rfl _ _ rfl (.slice (some (pK g8 0)) NN c8) (by simp [AF,AE,esz,e0,e1,e15]) (.int .i64 (NN:Int)) (fun w' _=>by go_simp)) hS ?_
   refine tk 2 (some 51) rfl rfl (by kernel_rfl) (fun _ _ _=>id) (AK rfl _ rfl (pq kb 0) (by simp [AF,AE,esz,e0,e1,e15])) hS ?_
   refine tk 4 (some 53) rfl rfl (by kernel_rfl) (fun _ _ _=>id) (AK rfl _ rfl (pq pb 0) (by simp [AF,AE,esz,e0,e1,e15])) hS ?_
   refine tk 5 (some 54) rfl rfl (by kernel_rfl) (fun _ _ _=>id) (AX rfl _ rfl (pK pb 0) (by simp [AF,AE,esz,e0,e1,e15])) hS ?_
   refine tk 6 (some 55) rfl rfl (by kernel_rfl) (fun _ _ _=>id) (AO rfl _ _ _ rfl (pq pb 0) (by simp [AF,AE,esz,e0,e1,e15]) (pq pb 0) (fun w'=>by go_simp)) hS ?_
   refine tk 7 (some 56) rfl rfl (by kernel_rfl) (fun _ _ _=>id) (AO rfl _ _ _ rfl (pq pb 0) (by simp [AF,AE,esz,e0,e1,e15]) (pq pb 17) (fun w'=>by go_simp)) hS ?_
   refine rdy [3] (by kernel_rfl) (AllReadyH.cons rfl (fun K hK=> ?_) AllReadyH.nil)
   refine DK rfl 74 51 _ rfl (pq kb 0) (by simp [AF,AE,esz,e0,e1,e15]) Yg _ (.int .i64 LF) (fun e w' h=>h.1) (AB HFR _ (AB HBD)) (some 52) rfl ?_
   rintro w9 ⟨_,hb9⟩
   have hb9:Below w8.heap.size w8 w9:=⟨hb9.os,hb9.tape,hb9.output,hb9.size,hb9.block⟩
   refine hK.out _ _ trivial (fun hS9=> ?_)
   clear hK K
   refine rdy [8] (by kernel_rfl) (AllReadyH.cons rfl (fun K hK=> ?_) AllReadyH.nil)
   refine DK rfl 75 56 _ rfl (pq pb 17) (by simp [AF,AE,esz,e0,e1,e15]) VZ _ (.int .i64 0) (fun e w' h=>h.1) (AB HCT _ hb9) (some 57) rfl ?_
   rintro w10 ⟨_,hb10⟩
   refine hK.out _ _ trivial (fun hS10=> ?_)
   clear hK K
   have HB10:=AC (hb9.trans (hb10.mono hb9.size))
   refine tk 9 (some 58) rfl rfl (by kernel_rfl) (fun _ _ _=>id) (B7 rfl .add 3 _ (.tmp 52) (.tmp 57) rfl (.int .i64 LF) (.int .i64 0) (by simp [AF,AE,esz,e0]) (by simp [AF,AE,esz,e0]) (.int .i64 LF) (AB R9)) hS10 ?_
   refine tk 10 (some 59) rfl rfl (by kernel_rfl) (fun _ _ _=>id) (B7 rfl .gtr 3 _ (.tmp 50) (.tmp 58) rfl (.int .i64 (NN:Int)) (.int .i64 LF) (by simp [AF,AE,esz,e0]) (by simp [AF,AE,esz,e0]) (.bool qb) (AB R10)) hS10 ?_
   refine wpAnyH_done (by kernel_rfl) ?_ _
   rw [AB HA14]
   simp only [Act.put,zm,zi,zj]
   have HB10':=AC ((AB HKM) w10 (AB HB10))
   have hb10:=AB HB10
   have d010:w10.cell? (pK QB 0)=some (.int .u64 E):=by rw [hb10.cell (p:=(pK QB 0)) (AB HQL)];exact AB HD08
   have HD10:=AC d010
   have HAP10:=AC (show Gy w10 g8 PS/\g8<w10.heap.size from ⟨(AB HAP).1.below hb10 (fun _=>(AB HAP).2),by have:=(AB HAP).2;have:=hb10.size;omega⟩)
   have HQL10:=AC (show QB<w10.heap.size from by have:=AB HQL;have:=hb10.size;omega)
   clear hb9 hb10 hS hS9 hS10 d010 HA14 e0 e1 e15 esz R9 R10 HFR HCT HBD HB10 HAP HQL HD08 HB8
   cases qb with
   |true=>
    have HP:=AC (show GB p s ss pb pid par fds w (Br 7) w10 from .inl ⟨7,.inr ⟨AB HE,.inr ⟨(AB HDF).1,.inr ⟨(AB HDF).2,.inr ⟨by rw [AB HFO];exact AB HGD,.inr ⟨AB HOK,by
     have h:=of_decide_eq_true (AB HQB).symm
     rw [AB HFO,<-(AB HN0).1,<-(AB HLF).1]
     have:=(AB HPS).2.2.2
     simp
     omega,rfl⟩⟩⟩⟩⟩,rfl,AB HB10'⟩)
    go_wp2
    go_ret
    exact AB HP
   |false=>
    have HEO:=AC (show p.ExecOk [0] 0 s ss from ⟨AB HE,(AB HDF).1,(AB HDF).2,by rw [AB HFO];exact AB HGD,AB HOK,by
     have h:=of_decide_eq_false (AB HQB).symm
     rw [AB HFO,<-(AB HN0).1,<-(AB HLF).1]
     have:=(AB HPS).2.2.2
     simp
     omega⟩)
    obtain ⟨SP,hSP⟩:∃SP,SP=Af PS:=⟨_,rfl⟩
    have hSl:SP.length=65792:=by rw [hSP];exact BD (fun q hq=>((AB HPS).2.1.each q hq).2.2.2.2)
    have hS1:∀v∈SP,v.oneCell'=true:=by rw [hSP];exact Hj PS
    have HNS:=AC (show Calls Tryz.prog 76 #[.slice (some (pK g8 0)) NN c8] w10.drew fun e w'=>e= .returned (.agg SP.toArray)/\Below w10.heap.size w10 w' from by
     have hn:=QL (some (pK g8 0)) g8 c8 PS w10.drew (AB HPS).2.1 (fun _=>⟨rfl,(AB HAP10).2⟩) (fun i q hq=>(AB HAP10).1 i q hq) (by have:=RY (AB HPS).2.1;exact this)
     rw [(AB HPS).2.2.1] at hn
     refine hn.mono ?_
     rintro e w' ⟨rfl,h⟩
     exact ⟨by rw [hSP],h.os,h.tape,h.output,h.size,h.block⟩)
    have HSP:=AC (And.intro hSP (And.intro hSl hS1))
    have R3:=AC (show ∀w':World,w'.cell? (pK QB 0)=some (.int .u64 E)->(Instr.loadAt 75 (pq QB 0)).run Tryz.prog w'= .ok (.int .u64 E) w' from fun w' h'=>by
     clear hSP hSl hS1
     go_simp)
    have hcl:(Cg E Cb SP).length=65809:=Bz Cs hSl
    have hcl0:(Cg 0 Cb Ah).length=65809:=Bz Cs Ca
    obtain ⟨CR,hCR⟩:∃CR,CR=Cg E Cb SP:=⟨_,rfl⟩
    have RB:=AC (Yd E SP hSl)
    rw [<-hCR] at RB
    obtain ⟨OLD,hOLD⟩:∃OLD,OLD=AZ 0 Cb Ah pid par 0 0 0 fds:=⟨_,rfl⟩
    have hCRl:CR.length=65809:=by rw [hCR];exact hcl
    have hCR1:∀v∈CR,v.oneCell'=true:=by rw [hCR];exact VW E Cb hS1
    have hOLl:65809<=OLD.length:=by rw [hOLD];unfold AZ;rw [zn,hcl0];omega
    have hspl:splice OLD 0 CR=AZ E Cb SP pid par 0 0 0 fds:=by rw [hOLD,hCR];exact Tl hcl0 hcl
    have HPR':=AC (show AG w pb 195 OLD from by rw [hOLD];exact AB HPR)
    have HCL:=AC (show (Tryz.prog.info? 190).map (·.size)=some CR.length/\0+CR.length<=OLD.length/\(∀v∈CR,v.oneCell'=true)/\splice OLD 0 CR=AZ E Cb SP pid par 0 0 0 fds from ⟨by rw [dg,hCRl],by rw [hCRl];omega,hCR1,hspl⟩)
    clear hSP hSl hS1 hcl hcl0 hCR hOLD hCRl hCR1 hOLl hspl
    go_upto_region 13 with fail
    refine BA ?_
    intro A hA
    have e1:A.eval (.tmp 1)= pq pb 0:=by rw [hA];rfl
    have e12:A.eval (.tmp 11)= pq QB 0:=by rw [hA];rfl
    have e15:A.eval (.tmp 14)= .slice (some (pK g8 0)) NN c8:=by rw [hA];rfl
    have esz:A.tmps.size=75:=by rw [hA];rfl
    have HA16:=AC hA
    clear hA
    refine wp_region_held_drew (S:=fun w'=>w'.cell? (pK QB 0)=some (.int .u64 E)) (by kernel_rfl) (AB HD10) (fun hS=> ?_)
    refine tk 0 (some 61) rfl rfl (by kernel_rfl) (fun _ _ _=>id) (AK rfl _ rfl (pq pb 0) (by simp [AF,AE,esz,e1,e12,e15])) hS ?_
    refine tk 1 (some 62) rfl rfl (by kernel_rfl) (fun _ _ _=>id) (AO rfl _ _ _ rfl (pq QB 0) (by simp [AF,AE,esz,e1,e12,e15]) (pq QB 0) (fun w'=>by go_simp)) hS ?_
    refine tk 2 (some 63) rfl rfl (by kernel_rfl) (fun _ _ _=>id) (AQ rfl _ _ rfl (pK QB 0) (by simp [AF,AE,esz,e1,e12,e15]) (.int .u64 E) (AB R3)) hS ?_
    refine tk 3 (some 64) rfl rfl (by kernel_rfl) (fun _ _ _=>id) (AK rfl _ rfl (.slice (some (pK g8 0)) NN c8) (by simp [AF,AE,esz,e1,e12,e15])) hS ?_
    refine rdy [4] (by kernel_rfl) (AllReadyH.cons rfl (fun K hK=> ?_) AllReadyH.nil)
    refine DK rfl 76 64 _ rfl (.slice (some (pK g8 0)) NN c8) (by simp [AF,AE,esz,e1,e12,e15]) O8 _ (.agg SP.toArray) (fun e w' h=>h.1) (AB HNS) (some 65) rfl ?_
    rintro w11 ⟨_,hb11⟩
    have hS11:w11.cell? (pK QB 0)=some (.int .u64 E):=by rw [hb11.cell (p:=(pK QB 0)) (AB HQL10)];exact AB HD10
    refine hK.out _ _ hS11 (fun hS2=> ?_)
    clear hK K
    have hb11w:=(AB HB10').trans (hb11.mono (AB HB10').size)
    have hp11:=(AB HPR').below hb11w (AB HPR').lt
    have hpl:pb<w.heap.size:=(AB HPR').lt
    have hkeep:∀w12,Hid (w11.grownBy w12 (some pb))->w12.cell? (pK QB 0)=some (.int .u64 E):=fun w12 g=>(AB g).cell hS11 (by simp;have:=AB HGL;omega)
    refine tk 5 (some 66) rfl rfl (by kernel_rfl) (fun _ _ _=>id) (E4 rfl _ _ rfl #[(0,.int .u64 E),(2,.agg SP.toArray)] (by simp [AF,AE,esz]) (.agg CR.toArray) (AB RB)) hS2 ?_
    refine tk 6 (some 67) rfl rfl (by kernel_rfl) (fun _ _ _=>id) (AX rfl _ rfl (pK pb 0) (by simp [AF,AE,esz,e1,e12,e15])) hS2 ?_
    refine tk 7 (some 68) rfl rfl (by kernel_rfl) (fun _ _ _=>id) (AO rfl _ _ _ rfl (pq pb 0) (by simp [AF,AE,esz,e1,e12,e15]) (pq pb 0) (fun w'=>by go_simp)) hS2 ?_
    refine rdy [8] (by kernel_rfl) (FM rfl rfl 190 (.tmp 68) (.tmp 66) rfl pb 0 CR (by simp [AF,AE,esz]) (by simp [AF,AE,esz]) 195 OLD hp11 (AB HCL).1 (AB HCL).2.1 (AB HCL).2.2.1 rfl (fun w12 H12 G12=>⟨hkeep w12 G12,fun hS12=> ?_⟩) AllReadyH.nil)
    refine wpAnyH_done (by kernel_rfl) ?_ _
    rw [AB HA16]
    simp only [Act.put,zm,zi,zj]
    have h12:=AB H12
    rw [(AB HCL).2.2.2] at h12
    have hcl16:(AZ E Cb SP pid par 0 0 0 fds)[16]? =some (.int .u64 0):=by
     have h:=Bz (E:=E) Cs (AB HSP).2.1
     unfold AZ
     rw [zp (by rw [h];omega)]
     unfold Cg Cb
     rw [zp (by simp)]
     rfl
    have k16:w12.cell? (pK pb 16)=some (.int .u64 0):=h12.cell hcl16
    have f16:=h12.frozen 16
    have hset:=h12.set 16 (.int .u64 (65024+(EE ss:Int)))
    rw [bU Cs,Va] at hset
    have HFN:=AC (show GB p s ss pb pid par fds w (.returned .nilIface) (w12.setCell (pK pb 16) (.int .u64 (65024+(EE ss:Int)))) from .inr ⟨AB HEO,rfl,by
     have g:=AB G12
     have hs11:=hb11w.size
     have q:w12.grownBy (w12.setCell (pK pb 16) (.int .u64 (65024+(EE ss:Int)))) (some pb):=AS ⟨rfl,rfl,rfl,zx _,fun _ _ _=>rfl⟩ 16 _
     refine ⟨g.os.trans hb11w.os,g.tape.trans hb11w.tape,g.output.trans hb11w.output,zh hs11 (zh g.size q.size),fun k hk hn=> ?_⟩
     have hkp:some k≠some pb:=by simpa using hn
     exact (q.block k (by have:=g.size;omega) hkp).trans ((g.block k (by omega) hkp).trans (hb11w.block k hk)),by
     rw [AB HFO,<-(AB HN0).2,<-(AB HPS).1,<-(AB HSP).1]
     exact hset⟩)
    clear hS hS2 hS11 hS12 hb11 hb11w hp11 hset h12 H12 G12 hcl16 HA16 e1 e12 e15 esz HNS RB R3 hpl hkeep HCL
    go_wp2
    go_ret
    exact AB HFN
structure P2 (lp lf lo li lb:Int) (j S:Nat) (p:PK):Prop where
 len:p.xs.length<=j+1
 used:AU p.cs<=S
 bytes:CC p.cs
 lims:p.lp=lp/\p.lf=lf/\p.lo=lo/\p.li=li/\p.lb=lb
theorem L9 (p:PK) (s:ByteArray):(p.opened s).1.xs.length<=p.xs.length+1/\AU (p.opened s).1.cs=AU p.cs/\(CC p.cs->CC (p.opened s).1.cs)/\(p.opened s).1.lp=p.lp/\(p.opened s).1.lf=p.lf/\(p.opened s).1.lo=p.lo/\(p.opened s).1.li=p.li/\(p.opened s).1.lb=p.lb:=by
 unfold PK.opened
 split
 ·refine ⟨by simp [PK.add],FK _,fun h=>h.snoc,rfl,rfl,rfl,rfl,rfl⟩
 ·exact ⟨by simp,rfl,fun h=>h,rfl,rfl,rfl,rfl,rfl⟩
theorem Vc {c B:List Int} (hc:AY c) (hB:AY B):AY (Ee c B):=by
 rw [CB] at hc hB ⊢
 intro x hx
 unfold Ee at hx
 rcases List.mem_append.1 hx with h|h
 ·exact hB x h
 ·exact hc x (List.mem_of_mem_drop h)
theorem P2.put {lp lf lo li lb:Int} {j S:Nat} {p:PK} (h:P2 lp lf lo li lb j S p) (f:AV) (hb:AY f.bytes):P2 lp lf lo li lb (j+1) (S+f.bytes.length) (p.put f).2:=by
 unfold PK.put
 split
 ·unfold PK.mkdir
  have h0:P2 lp lf lo li lb (j+1) (S+f.bytes.length) p:=⟨by have:=h.len;omega,by have:=h.used;omega,h.bytes,h.lims⟩
  split
  ·exact h0
  split
  ·exact h0
  split
  ·exact h0
  ·exact ⟨by have:=h.len;simp [PK.add];omega,by have:=h.used;show AU (p.cs++[[]])<=_;rw [FK];omega,h.bytes.snoc,h.lims⟩
 ·obtain ⟨o1,o2,o3,o4,o5,o6,o7,o8⟩:=L9 p f.path
  have hl:=h.lims
  unfold PK.fileOut
  split
  ·exact ⟨by have:=h.len;show (p.opened f.path).1.xs.length<=_;omega,by have:=h.used;show AU (p.opened f.path).1.cs<=_;omega,o3 h.bytes,o4.trans hl.1,o5.trans hl.2.1,o6.trans hl.2.2.1,o7.trans hl.2.2.2.1,o8.trans hl.2.2.2.2⟩
  ·refine ⟨by have:=h.len;show (p.opened f.path).1.xs.length<=_;omega,?_,?_,o4.trans hl.1,o5.trans hl.2.1,o6.trans hl.2.2.1,o7.trans hl.2.2.2.1,o8.trans hl.2.2.2.2⟩
   ·have hs:=KW (p.opened f.path).1.cs (BK (p.opened f.path).1.xs (p.opened f.path).2).toNat (Ee ((p.opened f.path).1.old (p.opened f.path).2) f.bytes)
    rw [G2 (M:=max f.bytes.length ((p.opened f.path).1.old (p.opened f.path).2).length) rfl] at hs
    have e:(p.opened f.path).1.old (p.opened f.path).2=(p.opened f.path).1.cs.getD (BK (p.opened f.path).1.xs (p.opened f.path).2).toNat []:=rfl
    rw [<-e] at hs
    have:=h.used
    show AU ((p.opened f.path).1.cs.set _ _)<=_
    omega
   ·intro c hc
    rcases List.mem_or_eq_of_mem_set hc with h1|h1
    ·exact o3 h.bytes c h1
    ·rw [h1]
     refine Vc ?_ hb
     show AY ((p.opened f.path).1.cs.getD _ [])
     rw [zl]
     cases hg:(p.opened f.path).1.cs[(BK (p.opened f.path).1.xs (p.opened f.path).2).toNat]? with
     |none=>exact CB.2 (fun x hx=>by cases hx)
     |some d=>exact o3 h.bytes d (zv hg)
def Vd (p:PK):Prop:=(p.xs.length:Int)<=p.li/\(AU p.cs:Int)<=p.lb
theorem Vd.put {p:PK} (h:Vd p) (f:AV) (hc:(p.put f).1=0):Vd (p.put f).2:=by
 have hadd:∀(d:Int) (name:ByteArray) (is:Bool),¬p.li<=(p.xs.length:Int)->Vd (p.add d name is):=fun d name is q=>by
  refine ⟨?_,?_⟩
  ·show (((p.xs++[Bh (p.last+1) d name is]).length:Nat):Int)<=p.li
   rw [zn]
   simp
   omega
  ·show (AU (p.cs++[[]]):Int)<=p.lb
   rw [FK]
   exact h.2
 unfold PK.put at hc ⊢
 split at hc
 ·rename_i q0
  rw [if_pos q0]
  unfold PK.mkdir at hc ⊢
  split at hc
  ·rename_i q;exact absurd hc q
  ·rename_i q
   rw [if_neg q]
   split at hc
   ·exact absurd hc (show ¬(10:Int)=0 by decide)
   ·rename_i q1
    rw [if_neg q1]
    split at hc
    ·exact absurd hc (show ¬(12:Int)=0 by decide)
    ·rename_i q2
     rw [if_neg q2]
     exact hadd _ _ _ q2
 ·rename_i q0
  rw [if_neg q0]
  have hc:p.fileCode f.path f.bytes=0:=hc
  show Vd (p.fileOut f.path f.bytes)
  unfold PK.fileCode at hc
  split at hc
  ·rename_i q;exact absurd hc q
  ·split at hc
   ·exact absurd hc (by decide)
   ·rename_i q1
    have ho:Vd (p.opened f.path).1:=by
     unfold PK.opened
     split
     ·rename_i q2;exact hadd _ _ _ (fun q3=>q1 ⟨q2,q3⟩)
     ·exact h
    split at hc
    ·exact absurd hc (by decide)
    ·split at hc
     ·exact absurd hc (by decide)
     ·rename_i q3
      unfold PK.fileOut
      split
      ·exact ho
      ·rename_i q4
       refine ⟨ho.1,?_⟩
       have hs:=KW (p.opened f.path).1.cs (BK (p.opened f.path).1.xs (p.opened f.path).2).toNat (Ee ((p.opened f.path).1.old (p.opened f.path).2) f.bytes)
       rw [G2 (M:=max f.bytes.length ((p.opened f.path).1.old (p.opened f.path).2).length) rfl] at hs
       have e:(p.opened f.path).1.old (p.opened f.path).2=(p.opened f.path).1.cs.getD (BK (p.opened f.path).1.xs (p.opened f.path).2).toNat []:=rfl
       rw [<-e] at hs
       have hl8:=(L9 p f.path).2.2.2.2.2.2.2
       show (AU ((p.opened f.path).1.cs.set _ _):Int)<=(p.opened f.path).1.lb
       rw [hl8]
       have q5:¬p.lb<(AU (p.opened f.path).1.cs:Int)-(((p.opened f.path).1.old (p.opened f.path).2).length:Int)+((max f.bytes.length ((p.opened f.path).1.old (p.opened f.path).2).length:Nat):Int):=fun q5=>q3 ⟨by omega,q5⟩
       omega
theorem Ve (lp lf lo li lb:Int):P2 lp lf lo li lb 0 0 (B6 lp lf lo li lb):=⟨by simp [B6],by simp [B6,AU],KX,rfl,rfl,rfl,rfl,rfl⟩
theorem Ba.base {w:World} {B B' tb ab am:Nat} {li lb used:Int} {xs:List Ino} {NB MB:List Nat} {V:List Value} (h:Ba w B tb ab am li lb used xs NB MB V) (hB:B'<=B):Ba w B' tb ab am li lb used xs NB MB V:=
 ⟨h.tree,h.above,h.amap,h.len,h.node,h.root,h.vlen,h.apart,zh hB h.low.1,zh hB h.low.2.1,zh hB h.low.2.2.1,fun b hb=>zh hB (h.low.2.2.2.1 b hb),fun m hm=>⟨zh hB (h.low.2.2.2.2 m hm).1,(h.low.2.2.2.2 m hm).2⟩⟩
theorem Yh {w:World} {B B' tb ab am nb nm:Nat} {lp lf lo li lb:Int} (h:Ba w B tb ab am li lb 0 [Bh 1 0 ByteArray.empty true] [nb] [nm] [.slice none 0 0]) (hB:B'<=B):BY w B' tb ab am (B6 lp lf lo li lb) [nb] [nm] [.slice none 0 0]:=by
 refine ⟨h.base hB,fun i v c hv hc=> ?_,fun i j v u R hv hu h1 h2=> ?_⟩
 ·have hi:=(zy.1 hv).1
  have hi0:i=0:=by simp at hi;omega
  subst hi0
  have e1:Value.slice none 0 0=v:=by simpa using hv
  have e2:[]=c:=by simpa [B6] using hc
  exact .inl ⟨e1.symm,e2.symm⟩
 ·have hi:=(zy.1 hv).1
  have hj:=(zy.1 hu).1
  simp at hi hj
  omega
theorem BY.stable {w w':World} {B tb ab am:Nat} {p:PK} {NB MB:List Nat} {V:List Value} (h:BY w B tb ab am p NB MB V) (hs:w.heap.size<=w'.heap.size) (hk:∀k,B<=k->k<w.heap.size->w'.heap[k]? =w.heap[k]?):BY w' B tb ab am p NB MB V:=by
 have hl:=h.tree.low
 refine ⟨⟨Ab h.tree.tree (hk _ hl.1 h.tree.tree.lt),Ab h.tree.above (hk _ hl.2.1 h.tree.above.lt),h.tree.amap.block (hk _ hl.2.2.1 h.tree.amap.lt),h.tree.len,fun i x b m hx hb hm=> ?_,h.tree.root,h.tree.vlen,h.tree.apart,hl.1,hl.2.1,hl.2.2.1,hl.2.2.2.1,fun m hm=>⟨(hl.2.2.2.2 m hm).1,by have:=(hl.2.2.2.2 m hm).2;omega⟩⟩,fun i v c hv hc=> ?_,h.own⟩
 ·obtain ⟨qn,v,mv,h1,h2,h3⟩:=h.tree.node i x b m hx hb hm
  refine ⟨qn,v,mv,Ab h1 (hk _ (hl.2.2.2.1 b (zv hb)) h1.lt),fun hd=>⟨(h2 hd).1,(h2 hd).2.block (hk _ (hl.2.2.2.2 m (zv hm)).1 (h2 hd).2.lt)⟩,h3⟩
 ·rcases h.cont i v c hv hc with q|⟨R,cp,T,q1,q2,q3,q4,q5⟩
  ·exact .inl q
  ·exact .inr ⟨R,cp,T,q1,Ab q2 (hk R q5 q2.lt),q3,q4,q5⟩
theorem dh (w:World) (pb:Nat):∃w',(Instr.mapUpdate 106 (.map (some w.heap.size)) (.int .i64 1) (pq pb 0)).run Tryz.prog (w.alloc (.map #[] 0))= .ok () w'/\A6 w' w.heap.size pb/\(w.alloc (.map #[] 0)).grownBy w' (some w.heap.size):=by
 have hD:(w.alloc (.map #[] 0)).ownsMap Tryz.prog 3 CQ w.heap.size 0 (.map []):=World.ownsMap_made w _ _ _
 have hkey:=Go.Maps.keyOf_int_mk (P:=Tryz.prog) Tryz.underlying3 (a:=1) (by decide)
 obtain ⟨w',hrun,hD',hg⟩:=hD.update G7 Tryz.underlying106 (by unfold maxLen;omega) hkey (show CQ (pq pb 0)=some (.lit (.int .i64 pb),[]) from rfl)
 exact ⟨w',hrun,hD',hg⟩
end
section
open Go Go.RowKit
theorem MA:(Tryz.prog.info? 163).map (fun i=>(i.zero,i.size,i.bytes))=some (some (.agg J0.toArray),24,224):=by kernel_rfl
theorem bW (w:World):∃cur:Array Value,cur.size=1*24/\(Instr.makeSlice 156 (.int .i64 0) (.int .i64 1)).run Tryz.prog w= .ok (.slice (some (pK w.heap.size 0)) 0 1) (w.alloc (.cells cur 163)):=by
 obtain ⟨i,hi,hz,hs,hb⟩:=info_parts MA
 have hr:=run_make (P:=Tryz.prog) w 156 163 i _ Tryz.underlying156 hi hz .i64 .i64 0 1 (by omega) (by omega) (by rw [hb];omega) (by omega)
 rw [hs] at hr
 exact ⟨_,by simp [madeCells],hr⟩
def Mc (pid par st su E:Int) (R:List Int) (PS:List Pg) (m:Nat) (FR:List Value) (w:World) (e:Ending) (w':World):Prop:=
 ∃ag ac pa ca fa fc,e= .returned (.slice (some (pK ag 0)) 1 ac)/\Below w.heap.size w w'/\w.heap.size<=ag/\ag<w'.heap.size/\w'.rangeAt ag 0 (DJ pid par st su 0 E R (.slice pa PS.length ca) (.slice fa m fc))/\
  w'.ownsRow w.heap.size 166 258 (.slice pa PS.length ca) PS.length (BG PS)/\w'.ownsRow w.heap.size 253 3 (.slice fa m fc) m FR/\(∀a b,pa=some a->fa=some b->a.block≠b.block)/\(∀a,pa=some a->a.block≠ag)/\∀a,fa=some a->a.block≠ag
theorem OA (kb pm pb:Nat) (E:Int) (R:List Int) (PS:List Pg) (pid par st su wk:Int) (xs:List Value) (m:Nat) (FR:List Value) (w:World) (hk:w.cell? (pK kb 9)=some (.map (some pm))) (hkl:kb<w.heap.size) (hm:A6 w pm pb) (hp:AG w pb 195 (AZ E R (Af PS) pid par st su wk xs)) (hR:R.length=16) (hok:As PS) (hst:st≠1) (hfd:∀w':World,w'.rangeAt pb 65814 xs->Calls Tryz.prog 202 #[pq pb 0] w' fun e w2=>∃v,e= .returned v/\w2.ownsRow w'.heap.size 253 3 v m FR/\Below w'.heap.size w' w2):
  Calls Tryz.prog 112 #[pq kb 0] w (Mc pid par st su E R PS m FR w):=by
 obtain ⟨cur,hcur,hmk⟩:=bW w
 have hln:=Q0 hm
 obtain ⟨W1,hW1⟩:∃W1,W1=w.alloc (.cells cur 163):=⟨_,rfl⟩
 have hb1:Below w.heap.size w W1:=by rw [hW1];exact (zw _ _).alloc (zx _) _
 have hs1:w.heap.size<W1.heap.size:=by rw [hW1];simp
 have ho1:W1.ownsRow w.heap.size 163 24 (.slice (some (pK w.heap.size 0)) 0 1) 0 []:=by rw [hW1];exact World.ownsRow_made w cur 1 (zx _) (by unfold maxLen;omega) hcur
 have HAL:=AC (WY kb pm pb W1 (by rw [hb1.cell (p:=(pK kb 9)) hkl];exact hk) (by omega) (hm.kept (A7 hb1) (by simp)))
 have HTL:=AC (show ∀w',Below w.heap.size w w'->Calls Tryz.prog 161 #[pq kb 0,pq pb 0] w' (Nk pid par st su E R PS m FR w') from fun w' h=>aD kb pb E R PS pid par st su wk xs m FR w' (hp.below h hp.lt) hR hok hst hfd)
 have HB1:=AC hb1
 have HO1:=AC ho1
 have HW1:=AC hW1
 obtain ⟨ip,hip,hpz0,hpz1,hpz2⟩:=info_parts MA
 have HIP:=AC (And.intro hip (And.intro hpz0 (And.intro hpz1 hpz2)))
 clear hm hb1 ho1 hW1 hcur hip hpz0 hpz1 hpz2 hp hok hfd
 go_enter Tryz.func112,Tryz.ntmps112
 go_upto_region 2 with fail
 rw [<-AB HW1]
 clear hmk hln hk
 go_wp2_with fail
 refine (AB HAL).mono ?_
 rintro e w2 ⟨v2,rfl,ho2,hb2⟩
 obtain ⟨g2,c2,rfl,hg2,hgl2⟩:=ho2.form (by omega)
 have s0:w2.cell? (pK g2 0)=some (pq pb 0):=ho2.cellAt 0 (by omega)
 have hb2w:=(AB HB1).trans (hb2.mono (AB HB1).size)
 have HO2:=AC (BO (AB HO1) (AC hb2))
 have HB2:=AC hb2w
 have HT2:=AC (AB HTL w2 hb2w)
 have HL:=AC (show w.heap.size<w2.heap.size from by have:=hb2.size;omega)
 clear ho2 hb2 hb2w hg2 hgl2 HAL HO1 HTL
 go_wp2
 go_loopw [3,15] (fun v i wr=>∃k:Nat,k<=1/\i= .int .i64 k/\(k=0->v= .slice (some (pK w.heap.size 0)) 0 1/\wr=w2)/\(k=1->Hid (Mc pid par st su E R PS m FR w (.returned v) wr))) (fun _ i _=>1-(intOf i).toNat)
 case atStart=>exact ⟨0,by omega,rfl,fun _=>⟨rfl,rfl⟩,fun h=>by omega⟩
 case round=>
  obtain ⟨k,hk,rfl,h1,h2⟩:=hrel
  have h3:k=0\/k=1:=by omega
  rcases h3 with rfl|rfl
  ·obtain ⟨rfl,rfl⟩:=h1 rfl
   clear h1 h2
   go_wp2_with fail
   refine (AB HT2).mono ?_
   rintro e w3 ⟨ga,ca,fg,fc,rfl,hb3,hop,hof,hgf⟩
   have hgl:∀a,ga=some a->wr.heap.size<=a.block/\a.block<w3.heap.size:=fun a ha=>hop.lt a.block (by rw [ha];rfl)
   have hfl:∀a,fg=some a->wr.heap.size<=a.block/\a.block<w3.heap.size:=fun a ha=>hof.lt a.block (by rw [ha];rfl)
   obtain ⟨AR,hAR⟩:∃AR,AR=DJ pid par st su 0 E R (.slice ga PS.length ca) (.slice fg m fc):=⟨_,rfl⟩
   have hARl:AR.length=24:=by rw [hAR];rfl
   have hAR1:∀v∈AR,v.oneCell'=true:=by rw [hAR];exact Ly _ _ _ _ _ _ _ _ _ _ _ _ _
   rw [<-hAR]
   have hs3:=hb3.size
   obtain ⟨W4,hW4⟩:∃W4,W4=w3.alloc (.cells AR.toArray 163):=⟨_,rfl⟩
   have hb4:Below w3.heap.size w3 W4:=by rw [hW4];exact (zw _ _).alloc (zx _) _
   have hh4:AG W4 w3.heap.size 163 AR:=by rw [hW4];exact AG.new w3 163 AR
   have hb34:=hb3.trans (hb4.mono hs3)
   have HA:=AC (BO (AB HO2) (AC hb34))
   have HB4:=AC ((AB HB2).trans (hb34.mono (AB HB2).size))
   have HNW:=AC (GH (AC hh4))
   have HW4:=AC hW4
   have HAR:=AC (And.intro hAR (And.intro hARl hAR1))
   have hl:=AB HL
   have HOP:=AC (EJ (base':=w.heap.size) (BO hop (AC hb4)) (by omega))
   have HOF:=AC (EJ (base':=w.heap.size) (BO hof (AC hb4)) (by omega))
   have HD:=AC (show (∀a,ga=some a->wr.heap.size<=a.block/\a.block<w3.heap.size)/\(∀a,fg=some a->wr.heap.size<=a.block/\a.block<w3.heap.size)/\(∀a b,ga=some a->fg=some b->a.block≠b.block)/\w3.heap.size<W4.heap.size from ⟨hgl,hfl,hgf,hh4.lt⟩)
   clear hb3 hop hof hgl hfl hgf hAR hARl hAR1 hs3 hb4 hh4 hb34 hW4 HT2
   go_wp2_with (first
    |(refine FU rfl _ 163 _ rfl AR (by rfl) ip _ Tryz.underlying156 (AB HIP).1 (AB HIP).2.1 (by rw [(AB HIP).2.2.1,(AB HAR).2.1]) (by rw [(AB HAR).2.1];decide) (by rw [(AB HAR).2.1];decide) ?_;rw [<-AB HW4])
    |(at_builtin;refine wpList_append_lies _ (by rfl) _ _ 156 (by rfl) w.heap.size 163 ip _ 24 224 Tryz.underlying156 (AB HIP).1 (AB HIP).2.1 (AB HIP).2.2.1 (AB HIP).2.2.2 rfl (by decide) _ 0 [] (by rfl) (AB HA) (pK w3.heap.size 0) 1 1 AR (by rfl) (by rw [(AB HAR).2.1]) (AB HNW) (AB HAR).2.2 (by omega) (by unfold maxLen;omega) (by omega) (by have:=(AB HB4).size;omega) W4.heap.size (by rfl) ?_;intro g8 c8 w8 hown8 hgrow8 hat8 hlt8))
   have hgrow8:W4.grownBy w8 (some w.heap.size):=hgrow8
   obtain ⟨d1,d2,d5,d6⟩:=AB HD
   have hbs:=(AB HB4).size
   have hg8:g8=w.heap.size\/g8=W4.heap.size:=by
    rcases hat8 with h|h
    ·left
     have:some w.heap.size=some g8:=h
     simpa using this.symm
    ·exact .inr h
   refine ⟨⟨1,by omega,by simp,fun h=>by omega,fun _=>AC ⟨g8,c8,ga,ca,fg,fc,rfl,(AB HB4).trans (Ag hgrow8 (zx _) (AB HB4).size),by omega,hlt8,fun j v hv=> ?_,(AB HOP).kept hgrow8 (.inr (JL fun a ha=>by have:=d1 a ha;omega)),(AB HOF).kept hgrow8 (.inr (JL fun a ha=>by have:=d2 a ha;omega)),d5,fun a ha=>by have:=d1 a ha;omega,fun a ha=>by have:=d2 a ha;omega⟩⟩,by simp [intOf]⟩
   rw [zq]
   rw [<-(AB HAR).1] at hv
   have hj:=(zy.1 hv).1
   rw [(AB HAR).2.1] at hj
   rw [hown8.cellAt j (by omega)]
   exact hv
  ·have HF:=h2 rfl
   clear h1 h2
   go_wp2
   go_ret
   exact AB HF
theorem dj:Dt [] [-1, -1, -1,0,0,0,0,0]=[⟨0,4,0⟩,⟨1,4,0⟩,⟨2,4,0⟩]:=by kernel_rfl
theorem Tn {w:World} {base:Nat} {e:TypeId} {size:Nat} {pa:Option Addr} {n c:Nat} {xs:List Value} (h:w.ownsRow base e size (.slice pa n c) n xs) (hn:0<n):∃g,pa=some (pK g 0):=by
 obtain ⟨g,cap,he,_⟩:=h.form hn
 injection he with h1
 exact ⟨g,h1⟩
theorem To {p:AP} {w w':World} {e:Ending} (hF0:p.F=[-1, -1, -1,0,0,0,0,0]) (hle:p.le=0) (h0:0<p.PS.length) (hpg:∀q∈p.PS,q.bytes.length=256) (h:Mc p.pid p.par p.st p.su p.pc p.R p.PS 3 (Gf 3) w e w'):F8 w [] [p] e w':=by
 obtain ⟨ag,ac,ga,ca,fg,fc,rfl,hb,hag,hal,hrow,hop,hof,h1,h2,h3⟩:=h
 obtain ⟨ga,rfl⟩:=Tn hop h0
 obtain ⟨fg,rfl⟩:=Tn hof (by omega)
 have hgl:=hop.lt ga rfl
 have hfl:=hof.lt fg rfl
 have hF:Dt [] p.F=[⟨0,4,0⟩,⟨1,4,0⟩,⟨2,4,0⟩]:=by rw [hF0];exact dj
 have hapi:Gy w' ga p.PS:=Zh hpg hop
 refine ⟨some (pK ag 0),ag,ac,[⟨some (pK ga 0),ga,ca,some (pK fg 0),fg,0,fc⟩],rfl,fun _=>⟨rfl,hal⟩,hb,rfl,fun i q l _ hq hl=> ?_,fun i j q l m hq hl hm hne _=> ?_⟩
 ·have hi:=(zy.1 hq).1
  have hi0:i=0:=by simp at hi;omega
  subst hi0
  have e1:p=q:=by simpa using hq
  have e2:(⟨some (pK ga 0),ga,ca,some (pK fg 0),fg,0,fc⟩:K8)=l:=by simpa using hl
  subst e1 e2
  refine ⟨?_,fun _=>⟨rfl,hgl.1,hgl.2,h2 _ rfl⟩,hapi,fun j hj=> ?_,fun _=>⟨rfl,hfl.2⟩,?_⟩
  ·rw [Nat.zero_mul]
   unfold NT
   rw [hF,hle]
   exact hrow
  ·obtain ⟨v,c1,f1⟩:=El hop (j*258) (by omega)
   obtain ⟨v2,c2,f2⟩:=El hop (j*258+2) (by omega)
   obtain ⟨q,hq⟩:∃q,p.PS[j]? =some q:=⟨_,zz hj⟩
   refine ⟨by rw [c1];rfl,f1,?_,f2⟩
   have h256:=hpg q (zv hq)
   have:=(hapi j q hq).2.2 0 (.int .u8 (q.bytes.getD 0 0)) (AT _ _ (by omega))
   exact ⟨_,this⟩
  ·rw [hF]
   intro i x hx
   have hi:=(zy.1 hx).1
   have hi3:i<3:=by simpa using hi
   have c0:=hof.cellAt (i*3) (by omega)
   have c1:=hof.cellAt (i*3+1) (by omega)
   have c2:=hof.cellAt (i*3+2) (by omega)
   rw [zq,c0,c1,c2]
   have h9:i=0\/i=1\/i=2:=by omega
   rcases h9 with rfl|rfl|rfl
   ·have:(⟨0,4,0⟩:AFd)=x:=by simpa using hx
    subst this;exact ⟨rfl,rfl,rfl⟩
   ·have:(⟨1,4,0⟩:AFd)=x:=by simpa using hx
    subst this;exact ⟨rfl,rfl,rfl⟩
   ·have:(⟨2,4,0⟩:AFd)=x:=by simpa using hx
    subst this;exact ⟨rfl,rfl,rfl⟩
 ·have hi:=(zy.1 hq).1
  have hj:=(zy.1 hm).1
  simp at hi hj
  omega
theorem P3 {tk kb:Nat} {w:World} {R:Ending->World->Prop} (ht:w.cell? (pK tk 0)=some (pq kb 0)) (hR:∀e w',R e w'->∃v,e= .returned v) (h:Calls Tryz.prog 112 #[pq kb 0] w R):Calls Tryz.prog 57 #[pq tk 0] w R:=by
 have HT:=AC h
 have HRR:=AC hR
 clear h hR
 go_enter Tryz.func57,Tryz.ntmps57
 go_wp2_with fail
 refine (AB HT).mono ?_
 intro e w1 h1
 obtain ⟨v,rfl⟩:=AB HRR e w1 h1
 have HP:=AC h1
 clear h1 ht HT HRR
 go_wp2
 exact AB HP
theorem bX {tk kb pm pb cb:Nat} {p:AP} {wk:Int} {w:World} (ht:w.cell? (pK tk 0)=some (pq kb 0)) (hk:w.cell? (pK kb 9)=some (.map (some pm))) (hkl:kb<w.heap.size) (hm:A6 w pm pb) (hp:AG w pb 195 (AZ p.pc p.R (Af p.PS) p.pid p.par p.st p.su wk (DW cb 3))) (hR:p.R.length=16) (hok:As p.PS) (hst:p.st≠1) (hF0:p.F=[-1, -1, -1,0,0,0,0,0]) (hle:p.le=0) (h0:0<p.PS.length):Calls Tryz.prog 57 #[pq tk 0] w (F8 w [] [p]):=
 P3 ht (fun e w' h=>by obtain ⟨_,_,_,_,h,_⟩:=h;exact ⟨_,h⟩) ((OA kb pm pb p.pc p.R p.PS p.pid p.par p.st p.su wk (DW cb 3) 3 (Gf 3) w hk hkl hm hp hR hok hst (fun w' h=>TH pb cb w' h)).mono fun e w' h=>To hF0 hle h0 (fun q hq=>(hok.each q hq).2.2.2.2) h)
theorem bY {P:Program} {ops:Array Oper} {o:Oper} {a:Act} {w:World} {K:Act->World->Prop} {Q:Exit->Act->World->Prop} {E:Prop} (hgd:o.guard=none) (t:Nat) (ts:Array TypeId) (ho:o.op= .call {callee:= .builtin .len,args:=#[.tmp t],argTypes:=ts}) (v:Value) (hx:a.eval (.tmp t)=v) (r:Value) (hrun:(Builtin.len_ ts o.type #[v]).run P w= .ok r w) (d:Option Tmp) (hd:o.dst=d) (h:K (a.put d r) w):
  if Region.wanted o (yielded ops a.tmps)=true then Oper.wp P o a w K Q else E:=by
 have hw:Region.wanted o (yielded ops a.tmps)=true:=by simp [Region.wanted,hgd]
 have hx':a.tmps[t]?.getD undef=v:=by rw [<-hx];simp [go_sem]
 rw [if_pos hw]
 subst hd
 unfold Oper.wp
 simp [execOp,ho,hx',invoke,resolve,go_sem,hrun,Result.andThen]
 simpa [go_sem] using h
theorem RZ:∀args w,(callFunc 163 args).run Tryz.prog w= .ok (.enter 163 args) w:=enters_of Tryz.func163 (by kernel_rfl) rfl
theorem Tp:∀args w,(callFunc 164 args).run Tryz.prog w= .ok (.enter 164 args) w:=enters_of Tryz.func164 (by kernel_rfl) rfl
theorem Tq:∀args w,(callFunc 165 args).run Tryz.prog w= .ok (.enter 165 args) w:=enters_of Tryz.func165 (by kernel_rfl) rfl
theorem Md:(Tryz.prog.info? 23).map (·.size)=some 5:=by kernel_rfl
theorem Yi (a b c d e:Int) (w:World):(Instr.build 23 #[(0,.int .i64 a),(1,.int .i64 b),(2,.int .i64 c),(3,.int .i64 d),(4,.int .i64 e)]).run Tryz.prog w= .ok (.agg (BV a b c d e).toArray) w:=by kernel_rfl
theorem OC (a b c d e:Int):∀v∈BV a b c d e,v.oneCell'=true:=by
 intro v hv
 simp only [BV,List.mem_cons,List.not_mem_nil,or_false] at hv
 rcases hv with rfl|rfl|rfl|rfl|rfl<;>rfl
theorem Yj {w:World} {m:Nat} (h:I0 w m) (ty:TypeId):(Builtin.len_ #[317] ty #[.map (some m)]).run Tryz.prog w= .ok (.int .i64 0) w:=by
 obtain ⟨c,hc⟩:=h
 exact run_len_map w 317 ty m #[] c (by kernel_rfl) hc
theorem Yk (kb pm pb cb tb ab:Nat) (lp lf lo li lb n used:Int) (PS:List Pg) (xs:List Value) (w:World) (hk:AG w kb 112 (EQ lp lf lo li lb tb cb pm)) (hm:A6 w pm pb) (hpl:pb<w.heap.size) (hp:Gc w pb PS) (hok:As PS) (hx:GM cb xs) (hf:w.rangeAt pb 65814 xs) (ht:AG w tb 175 [pq ab 0,.int .i64 n,.int .i64 li,.int .i64 used,.int .i64 lb]):
  Calls Tryz.prog 115 #[pq kb 0] w fun e w'=>e= .returned (.agg (BV 1 (PS.length:Nat) 0 n used).toArray)/\Below w.heap.size w w':=by
 obtain ⟨KROW,hKROW⟩:∃KROW,KROW=EQ lp lf lo li lb tb cb pm:=⟨_,rfl⟩
 have y9:KROW[9]? =some (.map (some pm)):=by rw [hKROW];rfl
 have y5:KROW[5]? =some (pq tb 0):=by rw [hKROW];rfl
 have y6:KROW[6]? =some (pq cb 0):=by rw [hKROW];rfl
 have HFR:=AC (show ∀ww,Below w.heap.size w ww->Calls Tryz.prog 132 #[pq kb 0] ww fun e w'=>e= .returned (.int .i64 (PS.length:Nat))/\Below ww.heap.size ww w' from fun ww h=>NZ kb pm pb lp lf lo li lb tb cb PS ww (hk.below h hk.lt) (hm.kept (A7 h) (by simp)) (by have:=h.size;omega) (hp.below h hpl) hok (RY hok))
 rw [<-hKROW] at hk
 have HOB:=AC (show ∀ww,Below w.heap.size w ww->Calls Tryz.prog 163 #[pq kb 0] ww fun e w'=>e= .returned (.map (some ww.heap.size))/\I0 w' ww.heap.size/\Below ww.heap.size ww w' from fun ww h=>Lx kb pm pb cb xs ww ((hk.below h hk.lt).cell y9) ((hk.below h hk.lt).cell y6) (by have:=h.size;have:=hk.lt;omega) (hm.kept (A7 h) (by simp)) (by have:=h.size;omega) hx (fun j v hv=>by rw [h.cell (p:=(pK pb (65814+j))) hpl];exact hf j v hv))
 have HIN:=AC (show ∀ww,Below w.heap.size w ww->Calls Tryz.prog 164 #[pq tb 0] ww fun e w'=>e= .returned (.int .i64 n)/\w'=ww from fun ww h=>Qi tb ab n li used lb ww (ht.below h ht.lt))
 have HBY:=AC (show ∀ww,Below w.heap.size w ww->Calls Tryz.prog 165 #[pq tb 0] ww fun e w'=>e= .returned (.int .i64 used)/\w'=ww from fun ww h=>Sw tb ab n li used lb ww (ht.below h ht.lt))
 have HSB:=AC (show ∀ww,Below w.heap.size w ww->AG ww kb 112 KROW/\A6 ww pm pb from fun ww h=>⟨hk.below h hk.lt,hm.kept (A7 h) (by simp)⟩)
 have R1:=AC (show ∀w':World,(AG w' kb 112 KROW/\A6 w' pm pb)->(Instr.loadAt 106 (pq kb 9)).run Tryz.prog w'= .ok (.map (some pm)) w' from fun w' h=>by
  have d:=h.1.cell y9
  clear h hk hm hp hf ht y9 y5 y6 hKROW hok
  go_simp)
 have R2:=AC (show ∀w':World,(AG w' kb 112 KROW/\A6 w' pm pb)->(Instr.loadAt 95 (pq kb 5)).run Tryz.prog w'= .ok (pq tb 0) w' from fun w' h=>by
  have d:=h.1.cell y5
  clear h hk hm hp hf ht y9 y5 y6 hKROW hok
  go_simp)
 obtain ⟨NP,hNP⟩:∃NP,NP=PS.length:=⟨_,rfl⟩
 rw [<-hNP] at HFR ⊢
 obtain ⟨W0,hW0⟩:∃W0,W0=w.alloc (.cells (BV 0 0 0 0 0).toArray 23):=⟨_,rfl⟩
 have hb0:Below w.heap.size w W0:=by rw [hW0];exact (zw _ _).alloc (zx _) _
 have hn0:AG W0 w.heap.size 23 (BV 0 0 0 0 0):=by rw [hW0];exact AG.new w 23 _
 have hs0:w.heap.size<W0.heap.size:=hn0.lt
 have hbd:Below W0.heap.size W0 W0.drew:=⟨rfl,rfl,rfl,zx _,fun _ _=>rfl⟩
 have HW0:=AC hW0
 have HB0:=AC hb0
 have HN0:=AC hn0
 have HBD:=AC (hb0.trans (hbd.mono hb0.size))
 have hkl:kb<w.heap.size:=hk.lt
 clear hk hm hp hf ht y9 y5 y6 hKROW hok hNP hW0 hb0 hn0 hbd
 go_enter Tryz.func115,Tryz.ntmps115
 go_upto_region 1 with fail
 have HW0':=AC (show w.alloc (Obj.cells #[.int .i64 0,.int .i64 0,.int .i64 0,.int .i64 0,.int .i64 0] 23)=W0 from (AB HW0).symm)
 rw [AB HW0']
 obtain ⟨H,hH⟩:∃H,H=w.heap.size:=⟨_,rfl⟩
 rw [<-hH]
 refine BA ?_
 intro A hA
 have e0:A.eval (.tmp 0)= pq kb 0:=by rw [hA];rfl
 have e2:A.eval (.tmp 2)= pq H 0:=by rw [hA];rfl
 have esz:A.tmps.size=24:=by rw [hA];rfl
 have HA:=AC hA
 clear hA
 refine wp_region_held_drew (S:=fun w'=>AG w' kb 112 KROW/\A6 w' pm pb) (by kernel_rfl) (AB HSB _ (AB HBD)) (fun hS=> ?_)
 refine tk 0 (some 3) rfl rfl (by kernel_rfl) (fun _ _ _=>id) (AK rfl _ rfl (pq kb 0) (by simp [AF,AE,esz,e0,e2])) hS ?_
 refine tk 1 (some 4) rfl rfl (by kernel_rfl) (fun _ _ _=>id) (AX rfl _ rfl (pK kb 0) (by simp [AF,AE,esz,e0,e2])) hS ?_
 refine tk 2 (some 5) rfl rfl (by kernel_rfl) (fun _ _ _=>id) (AO rfl _ _ _ rfl (pq kb 0) (by simp [AF,AE,esz,e0,e2]) (pq kb 9) (fun w'=>by go_simp)) hS ?_
 refine tk 3 (some 6) rfl rfl (by kernel_rfl) (fun _ _ _=>id) (AQ rfl _ _ rfl (pK kb 9) (by simp [AF,AE,esz,e0,e2]) (.map (some pm)) (AB R1)) hS ?_
 refine tk 4 (some 7) rfl rfl (by kernel_rfl) (fun _ _ _=>id) (Nb rfl _ _ rfl (.map (some pm)) (by simp [AF,AE,esz,e0,e2]) (.int .i64 1) (fun w' h=>Q0 h.2 _)) hS ?_
 refine tk 5 (some 8) rfl rfl (by kernel_rfl) (fun _ _ _=>id) (AK rfl _ rfl (pq kb 0) (by simp [AF,AE,esz,e0,e2])) hS ?_
 refine tk 7 (some 10) rfl rfl (by kernel_rfl) (fun _ _ _=>id) (AK rfl _ rfl (pq kb 0) (by simp [AF,AE,esz,e0,e2])) hS ?_
 refine tk 10 (some 13) rfl rfl (by kernel_rfl) (fun _ _ _=>id) (AK rfl _ rfl (pq kb 0) (by simp [AF,AE,esz,e0,e2])) hS ?_
 refine tk 11 (some 14) rfl rfl (by kernel_rfl) (fun _ _ _=>id) (AX rfl _ rfl (pK kb 0) (by simp [AF,AE,esz,e0,e2])) hS ?_
 refine tk 12 (some 15) rfl rfl (by kernel_rfl) (fun _ _ _=>id) (AO rfl _ _ _ rfl (pq kb 0) (by simp [AF,AE,esz,e0,e2]) (pq kb 5) (fun w'=>by go_simp)) hS ?_
 refine tk 13 (some 16) rfl rfl (by kernel_rfl) (fun _ _ _=>id) (AQ rfl _ _ rfl (pK kb 5) (by simp [AF,AE,esz,e0,e2]) (pq tb 0) (AB R2)) hS ?_
 refine tk 15 (some 18) rfl rfl (by kernel_rfl) (fun _ _ _=>id) (AK rfl _ rfl (pq kb 0) (by simp [AF,AE,esz,e0,e2])) hS ?_
 refine tk 16 (some 19) rfl rfl (by kernel_rfl) (fun _ _ _=>id) (AX rfl _ rfl (pK kb 0) (by simp [AF,AE,esz,e0,e2])) hS ?_
 refine tk 17 (some 20) rfl rfl (by kernel_rfl) (fun _ _ _=>id) (AO rfl _ _ _ rfl (pq kb 0) (by simp [AF,AE,esz,e0,e2]) (pq kb 5) (fun w'=>by go_simp)) hS ?_
 refine tk 18 (some 21) rfl rfl (by kernel_rfl) (fun _ _ _=>id) (AQ rfl _ _ rfl (pK kb 5) (by simp [AF,AE,esz,e0,e2]) (pq tb 0) (AB R2)) hS ?_
 refine rdy [6] (by kernel_rfl) (AllReadyH.cons rfl (fun K hK=> ?_) AllReadyH.nil)
 refine DK rfl 132 8 _ rfl (pq kb 0) (by simp [AF,AE,esz,e0]) Lt _ (.int .i64 (NP:Nat)) (fun e w' h=>h.1) (AB HFR _ (AB HBD)) (some 9) rfl ?_
 rintro w1 ⟨_,hb1⟩
 have hb1w:Below w.heap.size w w1:=(AB HB0).trans ((show Below W0.heap.size W0 w1 from ⟨hb1.os,hb1.tape,hb1.output,hb1.size,hb1.block⟩).mono (by omega))
 have hb01:Below W0.heap.size W0 w1:=⟨hb1.os,hb1.tape,hb1.output,hb1.size,hb1.block⟩
 refine hK.out _ _ (AB HSB _ hb1w) (fun hS1=> ?_)
 clear hK K
 refine rdy [8] (by kernel_rfl) (AllReadyH.cons rfl (fun K hK=> ?_) AllReadyH.nil)
 refine DK rfl 163 10 _ rfl (pq kb 0) (by simp [AF,AE,esz,e0]) RZ _ (.map (some w1.heap.size)) (fun e w' h=>h.1) (AB HOB _ hb1w) (some 11) rfl ?_
 rintro w2 ⟨_,hn2,hb2⟩
 have hb2w:Below w.heap.size w w2:=hb1w.trans (hb2.mono hb1w.size)
 have hb02:Below W0.heap.size W0 w2:=hb01.trans (hb2.mono hb01.size)
 refine hK.out _ _ (AB HSB _ hb2w) (fun hS2=> ?_)
 clear hK K
 refine rdy [9] (by kernel_rfl) (AllReadyH.cons rfl (fun K hK=> ?_) AllReadyH.nil)
 refine bY rfl 11 _ rfl (.map (some w1.heap.size)) (by simp [AF,AE,esz]) (.int .i64 0) (Yj hn2 _) (some 12) rfl ?_
 refine hK.out _ _ hS2 (fun hS3=> ?_)
 clear hK K
 refine rdy [14] (by kernel_rfl) (AllReadyH.cons rfl (fun K hK=> ?_) AllReadyH.nil)
 refine DK rfl 164 16 _ rfl (pq tb 0) (by simp [AF,AE,esz]) Tp _ (.int .i64 n) (fun e w' h=>h.1) (AB HIN _ hb2w) (some 17) rfl ?_
 rintro w3 ⟨_,hw3⟩
 subst hw3
 refine hK.out _ _ hS2 (fun hS4=> ?_)
 clear hK K
 refine rdy [19] (by kernel_rfl) (AllReadyH.cons rfl (fun K hK=> ?_) AllReadyH.nil)
 refine DK rfl 165 21 _ rfl (pq tb 0) (by simp [AF,AE,esz]) Tq _ (.int .i64 used) (fun e w' h=>h.1) (AB HBY _ hb2w) (some 22) rfl ?_
 rintro w4 ⟨_,hw4⟩
 subst hw4
 refine hK.out _ _ hS2 (fun hS5=> ?_)
 clear hK K
 obtain ⟨LR,hLR⟩:∃LR,LR=BV 1 (NP:Nat) 0 n used:=⟨_,rfl⟩
 have hLl:LR.length=5:=by rw [hLR];rfl
 have hL1:∀v∈LR,v.oneCell'=true:=by rw [hLR];exact OC _ _ _ _ _
 refine tk 20 (some 23) rfl rfl (by kernel_rfl) (fun _ _ _=>id) (E4 rfl _ _ rfl #[(0,.int .i64 1),(1,.int .i64 (NP:Nat)),(2,.int .i64 0),(3,.int .i64 n),(4,.int .i64 used)] (by simp [AF,AE,esz]) (.agg LR.toArray) (fun w'=>by rw [hLR];exact Yi _ _ _ _ _ w')) hS2 ?_
 have hn4:AG w4 H 23 (BV 0 0 0 0 0):=by rw [hH];exact (AB HN0).below hb02 hs0
 have hl0:(BV 0 0 0 0 0).length=5:=rfl
 refine rdy [21] (by kernel_rfl) (FM rfl rfl 23 (.tmp 2) (.tmp 23) rfl H 0 LR (by simp [AF,AE,esz,e2]) (by simp [AF,AE,esz]) 23 (BV 0 0 0 0 0) hn4 (by rw [Md,hLl]) (by rw [hLl,hl0];omega) hL1 rfl (fun w5 H5 G5=>⟨⟨hS2.1.grown (AB G5) (by simp;omega),hS2.2.kept (AB G5) (by have:=yp (AB HSB w (zw _ _)).2;simp;omega)⟩,fun hS6=> ?_⟩) AllReadyH.nil)
 refine wpAnyH_done (by kernel_rfl) ?_ _
 rw [AB HA]
 simp only [Act.put,zm,zi,zj]
 have h5:=AB H5
 rw [show splice (BV 0 0 0 0 0) 0 LR=LR by unfold splice;rw [zq,List.take_zero,yc,hLl,yg (by rw [hl0];omega),xz]] at h5
 have HFN:=AC (show Below w.heap.size w w5 from hb2w.trans (Ag (AB G5) (by omega) hb2w.size))
 have HL:=AC h5
 have HLR:=AC (And.intro hLR hLl)
 clear hS hS1 hS2 hS3 hS4 hS5 hS6 h5 H5 G5 hb1 hb2 hb1w hb01 hb2w hb02 hn2 hn4 hL1 hLR hLl HA e0 e2 esz
 subst hH
 go_wp2
 exact ⟨rfl,.agg LR.toArray,Fg (by rfl) (by rfl) (run_loadVar_mid w5 w.heap.size 0 23 LR _ (AB HL).range Tryz.underlying23 rfl (by rw [Md,(AB HLR).2])),by rw [(AB HLR).1],AB HFN⟩
end
section
open Go Go.RowKit Go.Maps
theorem A6.block {w w':World} {pm pb:Nat} (h:A6 w pm pb) (hh:w'.heap[pm]? =w.heap[pm]?):A6 w' pm pb:=by
 obtain ⟨es,clock,hb,F,hs,hD⟩:=h
 exact ⟨es,clock,by rw [hh];exact hb,F,hs,hD⟩
structure bZ (w:World) (B kb:Nat) (p:PK) (tb ab am cb pm pb:Nat) (NB MB:List Nat) (V:List Value):Prop where
 tree:BY w B tb ab am p NB MB V
 ker:AG w kb 112 (EQ p.lp p.lf p.lo p.li p.lb tb cb pm)
 procs:A6 w pm pb
 con:AG w cb 103 Vb
 proc:AG w pb 195 (AZ (Cj p).pc (Cj p).R (Af (Cj p).PS) 1 0 0 0 0 (DW cb 3))
 low:B<=kb/\B<=cb/\B<=pm/\B<=pb
 inv:Bo p
 size:p.xs.length<=101/\AU p.cs<=200000/\CC p.cs
theorem bZ.stable {w w':World} {B kb:Nat} {p:PK} {tb ab am cb pm pb:Nat} {NB MB:List Nat} {V:List Value} (h:bZ w B kb p tb ab am cb pm pb NB MB V) (hs:w.heap.size<=w'.heap.size) (hk:∀k,B<=k->k<w.heap.size->w'.heap[k]? =w.heap[k]?):bZ w' B kb p tb ab am cb pm pb NB MB V:=
 ⟨h.tree.stable hs hk,Ab h.ker (hk _ h.low.1 h.ker.lt),h.procs.block (hk _ h.low.2.2.1 (yp h.procs)),Ab h.con (hk _ h.low.2.1 h.con.lt),Ab h.proc (hk _ h.low.2.2.2 h.proc.lt),h.low,h.inv,h.size⟩
def KR (w:World) (B:Nat) (kp:Addr) (p:PK):Prop:=∃tk kb tb ab am cb pm pb NB MB V,kp=(pK tk 0)/\B<=tk/\AG w tk 62 [pq kb 0]/\bZ w B kb p tb ab am cb pm pb NB MB V
theorem Yl:U7 KR:=fun w w' B kp p h hs hk=>by
 obtain ⟨tk,kb,tb,ab,am,cb,pm,pb,NB,MB,V,h1,h2,h3,h4⟩:=h
 exact ⟨tk,kb,tb,ab,am,cb,pm,pb,NB,MB,V,h1,h2,Ab h3 (hk _ h2 h3.lt),h4.stable hs hk⟩
theorem bf {p:PK} (h:p.ExecOk [0] 0 At [BI]):As (Cj p).PS:=Wh h.2.2.2.1 _ (Cc h.2.2.2.2.1)
theorem bg (tk kb pm pb cb tb ab:Nat) (lp lf lo li lb n used:Int) (PS:List Pg) (xs:List Value) (w:World) (hT:w.cell? (pK tk 0)=some (pq kb 0)) (htl:tk<w.heap.size) (hk:AG w kb 112 (EQ lp lf lo li lb tb cb pm)) (hm:A6 w pm pb) (hpl:pb<w.heap.size) (hp:Gc w pb PS) (hok:As PS) (hx:GM cb xs) (hf:w.rangeAt pb 65814 xs) (ht:AG w tb 175 [pq ab 0,.int .i64 n,.int .i64 li,.int .i64 used,.int .i64 lb]):
  Calls Tryz.prog 61 #[pq tk 0] w fun e w'=>e= .returned (.agg (BV 1 (PS.length:Nat) 0 n used).toArray)/\Below w.heap.size w w':=by
 obtain ⟨W0,hW0⟩:∃W0,W0=w.alloc (Obj.cells #[.int .i64 0,.int .i64 0,.int .i64 0,.int .i64 0,.int .i64 0] 23):=⟨_,rfl⟩
 have hb0:Below w.heap.size w W0:=by rw [hW0];exact (zw _ _).alloc (zx _) _
 have hn0:AG W0 w.heap.size 23 [.int .i64 0,.int .i64 0,.int .i64 0,.int .i64 0,.int .i64 0]:=by rw [hW0];exact AG.new w 23 _
 have hT0:W0.cell? (pK tk 0)=some (pq kb 0):=by rw [hb0.cell (p:=(pK tk 0)) htl];exact hT
 have HU:=AC (Yk kb pm pb cb tb ab lp lf lo li lb n used PS xs W0 (hk.below hb0 hk.lt) (hm.kept (A7 hb0) (by simp)) (by have:=hb0.size;omega) (hp.below hb0 hpl) hok hx (fun j v hv=>by rw [hb0.cell (p:=(pK pb (65814+j))) hpl];exact hf j v hv) (ht.below hb0 ht.lt))
 have HW0:=AC hW0
 have HB0:=AC hb0
 have HN0:=AC hn0
 have hs0:w.heap.size<W0.heap.size:=hn0.lt
 clear hk hm hp hx hf ht hok hW0 hb0 hn0 hT
 go_enter Tryz.func61,Tryz.ntmps61
 go_upto_region 1 with fail
 rw [<-AB HW0]
 go_wp2_with fail
 refine (AB HU).mono ?_
 rintro e w1 ⟨rfl,hb1⟩
 have hn1:=(AB HN0).below hb1 hs0
 have HB1:=AC ((AB HB0).trans (hb1.mono (AB HB0).size))
 unfold BV
 obtain ⟨NP,hNP⟩:∃NP:Int,NP=((PS.length:Nat):Int):=⟨_,rfl⟩
 rw [<-hNP]
 have HNP:=AC hNP
 have k0:w1.cell? (pK w.heap.size 0)=some (.int .i64 0):=hn1.cell rfl
 have k1:w1.cell? (pK w.heap.size 1)=some (.int .i64 0):=hn1.cell rfl
 have k2:w1.cell? (pK w.heap.size 2)=some (.int .i64 0):=hn1.cell rfl
 have k3:w1.cell? (pK w.heap.size 3)=some (.int .i64 0):=hn1.cell rfl
 have k4:w1.cell? (pK w.heap.size 4)=some (.int .i64 0):=hn1.cell rfl
 have f0:=hn1.frozen 0
 have f1:=hn1.frozen 1
 have f2:=hn1.frozen 2
 have f3:=hn1.frozen 3
 have f4:=hn1.frozen 4
 clear hb1 hT0 HU hNP
 go_upto_region 99 with (refine CK rfl 23 _ _ rfl w.heap.size [.int .i64 1,.int .i64 NP,.int .i64 0,.int .i64 n,.int .i64 used] (by rfl) (by rfl) 23 _ hn1 (by rw [Md];rfl) (by rfl) (OC 1 NP 0 n used) ?_;intro w6 H6 G6)
 have h6:=AB H6
 exact ⟨rfl,.agg #[.int .i64 1,.int .i64 NP,.int .i64 0,.int .i64 n,.int .i64 used],Fg (by rfl) (by rfl) (run_loadVar_mid w6 w.heap.size 0 23 [.int .i64 1,.int .i64 NP,.int .i64 0,.int .i64 n,.int .i64 used] _ h6.range Tryz.underlying23 rfl (by rw [Md];rfl)),by rw [AB HNP];rfl,(AB HB1).trans (Ag G6 (zx _) (AB HB1).size)⟩
end
end Go.Proofs.YtdchgbmliojoiaaGreatDoor
