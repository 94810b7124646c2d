import Derived.Test.YtdchgbmliojoiaaGreatDoorG30
set_option maxRecDepth 100000
set_option maxHeartbeats 8000000
set_option linter.unusedVariables false
set_option linter.unusedSimpArgs false
namespace Go.Proofs.YtdchgbmliojoiaaGreatDoor
section
open Go.RowKit
theorem X7:∀args w,(callFunc 58 args).run Tryz.prog w= .ok (.enter 58 args) w:=enters_of Tryz.func58 (by kernel_rfl) rfl
theorem I1:(Tryz.prog.info? 163).map (·.size)=some 24:=by kernel_rfl
theorem TK:(Tryz.prog.info? 80).map (·.size)=some 31:=by kernel_rfl
def F8 (w:World) (OB:List ROb) (AL:List AP) (e:Ending) (w':World):Prop:=
 ∃aa ag ac LS,e= .returned (.slice aa AL.length ac)/\(0<AL.length->aa=some (pK ag 0)/\ag<w'.heap.size)/\Below w.heap.size w w'/\Ed w' w.heap.size ag 0 OB AL LS
theorem X8 (wb kb:Nat) (kp:Option Addr) (pa:Option Addr) (gp pc:Nat) (oa:Option Addr) (og oc:Nat) (OB:List ROb) (AL:List AP) (w:World)
  (hw0:w.cell? (pK wb 0)=some (.pointer kp)) (hw1:w.cell? (pK wb 1)=some (pq kb 0)) (hk5:w.cell? (pK kb 5)=some (.slice pa AL.length pc)) (hpa:0<AL.length->pa=some (pK gp 0)) (hrp:Zs w w.heap.size gp AL)
  (hk6:w.cell? (pK kb 6)=some (.slice oa OB.length oc)) (hoa:0<OB.length->oa=some (pK og 0)/\og<w.heap.size) (hob:eF w og OB) (hon:OB.length<=100000) (hal:AL.length<=1000) (hok:∀p∈AL,ec p) (hwl:wb<w.heap.size) (hkl:kb<w.heap.size)
  (hP:Calls Tryz.prog 57 #[.pointer kp] w (F8 w OB AL)):
  Calls Tryz.prog 29 #[pq wb 0] w fun e w'=>e= .returned (.bool true)/\Below w.heap.size w w':=by
 have HP:=AC hP
 have HRP:=AC hrp
 have HPA:=AC hpa
 have HOA:=AC hoa
 have HOB:=AC hob
 have HOK:=AC hok
 clear hP hrp hpa hoa hob hok
 go_enter Tryz.func29,Tryz.ntmps29
 go_wp2_with fail
 refine (AB HP).mono ?_
 rintro e w1 ⟨aa,ag,ac,LS,rfl,hag,hb1,hps⟩
 have HAG:=AC hag
 have HB1:=AC hb1
 have HPS:=AC hps
 have hs1:=hb1.size
 have d1:w1.cell? (pK wb 1)=some (pq kb 0):=by rw [hb1.cell (p:=(pK wb 1)) hwl];exact hw1
 have d5:w1.cell? (pK kb 5)=some (.slice pa AL.length pc):=by rw [hb1.cell (p:=(pK kb 5)) hkl];exact hk5
 clear HP hag hb1 hps
 go_wp2
 clear d1 d5
 go_loopw [4] (fun i wr=>∃j:Nat,j<=AL.length/\i= .int .i64 j/\Hid (Ed wr w.heap.size ag j OB AL LS)/\Hid (Below w.heap.size w wr)/\Hid (0<AL.length->ag<wr.heap.size)) (fun i _=>AL.length-(intOf i).toNat)
 case atStart=>exact ⟨0,by omega,rfl,HPS,HB1,AC (fun h=>(AB HAG h).2)⟩
 case round=>
  obtain ⟨j,hj,rfl,HPR,HB,HAL⟩:=hrel
  by_cases hlt:j<AL.length
  ·obtain ⟨p,hp⟩:∃p,AL[j]? =some p:=⟨_,zz hlt⟩
   obtain ⟨l,hl⟩:∃l,LS[j]? =some l:=⟨_,zz (by rw [(AB HPR).len];exact hlt)⟩
   have hpr:=(AB HPR).at_ j p l (zx _) hp hl
   obtain ⟨ab,gb,cb,hrow,hgb,hrpg⟩:=(AB HRP).at_ j p hp
   have hgp:=(AB HRP).lt (by omega)
   have hagl:=AB HAL (by omega)
   obtain rfl:=AB HPA (by omega)
   obtain rfl:=(AB HAG (by omega)).1
   have hpk:=AB HOK p (zv hp)
   have hbr:=(AB HB).size
   have hj0:(0:Int)<=(j:Int):=by omega
   have hj1:(j:Int)<(AL.length:Int):=by omega
   -- what is read,in every world that has kept all that was there
   have R1:=AC (show ∀w',Below wr.heap.size wr w'->w'.rangeAt ag (j*24) (NT OB p l) from fun w' h k v hv=>by rw [h.cell (p:=(pK ag (j*24+k))) hagl];exact hpr.row k v hv)
   have R2:=AC (show ∀w',Below wr.heap.size wr w'->w'.rangeAt gp (j*31) (BW p.pid p.par p.st p.su p.le p.pc p.R (.slice ab p.PS.length cb) p.F) from fun w' h k v hv=>by rw [h.cell (p:=(pK gp (j*31+k))) (by show gp<wr.heap.size;omega),(AB HB).cell (p:=(pK gp (j*31+k))) hgp];exact hrow k v hv)
   have R3:=AC (show ∀w',Below wr.heap.size wr w'->(Instr.loadAt 53 (pq wb 1)).run Tryz.prog w'= .ok (pq kb 0) w' from fun w' h=>by
    have c:w'.cell? (pK wb 1)=some (pq kb 0):=by rw [h.cell (p:=(pK wb 1)) (by show wb<wr.heap.size;omega),(AB HB).cell (p:=(pK wb 1)) hwl];exact hw1
    go_simp)
   have R4:=AC (show ∀w',Below wr.heap.size wr w'->(Instr.loadAt 81 (pq kb 5)).run Tryz.prog w'= .ok (.slice (some (pK gp 0)) AL.length pc) w' from fun w' h=>by
    have c:w'.cell? (pK kb 5)=some (.slice (some (pK gp 0)) AL.length pc):=by rw [h.cell (p:=(pK kb 5)) (by show kb<wr.heap.size;omega),(AB HB).cell (p:=(pK kb 5)) hkl];exact hk5
    go_simp)
   have HS0:Below wr.heap.size wr wr.drew:=⟨rfl,rfl,rfl,zx _,fun _ _=>rfl⟩
   have HSAME:=AC (show ∀w',Below wr.heap.size wr w'->Calls Tryz.prog 58 #[pq wb 0,.agg (NT OB p l).toArray,.agg (BW p.pid p.par p.st p.su p.le p.pc p.R (.slice ab p.PS.length cb) p.F).toArray] w' fun e w2=>e= .returned (.bool true)/\Below w'.heap.size w' w2 from fun w' h=>by
    have hs:=h.size
    have hw':∀b o,b<w.heap.size->w'.cell? (pK b o)=w.cell? (pK b o):=fun b o hb=>by rw [h.cell (p:=(pK b o)) (by show b<wr.heap.size;omega),(AB HB).cell (p:=(pK b o)) hb]
    have hp':=hpr.below h
    exact Qd wb kb (.bool true) oa og oc OB p.pid p.par p.st p.su p.le p.pc p.R p.F l.aa ab l.ga gb l.ca cb p.PS l.fa l.fg l.fo l.fc w' (by rw [hw' _ _ hwl];exact hw1) (by rw [hw' _ _ hkl];exact hk6) (fun h0=>(AB HOA h0).1) (fun k v hv=>by
      have h0:0<OB.length:=by
       cases OB with
       |nil=>simp [Pf] at hv
       |cons a r=>simp
      rw [hw' _ _ (AB HOA h0).2];exact (AB HOB) k v hv) hon hpk.regs (fun h0=>(hp'.aa h0).1) (fun h0=>(hgb h0).1) hp'.pages (fun k q hq=>by
      have h0:0<p.PS.length:=by have:=(zy.1 hq).1;omega
      obtain ⟨x1,x2,x3⟩:=hrpg k q hq
      exact ⟨by rw [hw' _ _ (hgb h0).2];exact x1,by rw [hw' _ _ (hgb h0).2];exact x2,fun m v hv=>by rw [hw' _ _ (hgb h0).2];exact x3 m v hv⟩) hpk.pages (by have:=hpk.count;omega) (fun h0=>(hp'.fa h0).1) hp'.fds ⟨by omega,by omega,fun h0=>by have:=(AB HOA h0).2;omega,fun h0=>⟨(hp'.aa h0).2.2.1,by have:=(hgb h0).2;omega⟩,fun h0=>(hp'.fa h0).2⟩)
   have HPP:=AC hpr
   have HPL:=AC (And.intro hp hl)
   have hpk':=hpk
   clear hpr hrow hrpg hpk
   go_upto_region 7 with fail
   refine BA ?_
   intro A hA
   have e0:A.eval (.tmp 0)= pq wb 0:=by rw [hA];rfl
   have e3:A.eval (.tmp 3)= .slice (some (pK ag 0)) AL.length ac:=by rw [hA];rfl
   have e4:A.eval (.tmp 4)= .int .i64 j:=by rw [hA];rfl
   have esz:A.tmps.size=85:=by rw [hA];rfl
   have HA:=AC hA
   clear hA
   refine wp_region_held_drew (S:=fun w'=>Below wr.heap.size wr w') (by kernel_rfl) HS0 (fun hS=> ?_)
   refine tk 0 (some 29) rfl rfl (by kernel_rfl) (fun _ _ _=>id) (AK rfl _ rfl (pq wb 0) (by simp [AF,AE,esz,e0,e3,e4])) hS ?_
   refine tk 1 (some 30) rfl rfl (by kernel_rfl) (fun _ _ _=>id) (AK rfl _ rfl (.slice (some (pK ag 0)) AL.length ac) (by simp [AF,AE,esz,e0,e3,e4])) hS ?_
   refine tk 2 (some 31) rfl rfl (by kernel_rfl) (fun _ _ _=>id) (AK rfl _ rfl (.int .i64 j) (by simp [AF,AE,esz,e0,e3,e4])) hS ?_
   refine tk 3 (some 32) rfl rfl (by kernel_rfl) (fun _ _ _=>id) (BM rfl _ _ _ rfl (.slice (some (pK ag 0)) AL.length ac) (.int .i64 j) (by simp [AF,AE,esz,e0,e3,e4]) (by simp [AF,AE,esz,e0,e3,e4]) (pq ag (j*24)) (fun w'=>by go_simp)) hS ?_
   refine tk 4 (some 33) rfl rfl (by kernel_rfl) (fun _ _ _=>id) (yieldsIf_load_mid (by simp [Region.wanted]) _ _ rfl ag (j*24) (by simp [AF,AE,esz,e0,e3,e4]) (NT OB p l) _ (AB R1) Tryz.underlying163 rfl I1) hS ?_
   refine tk 5 (some 34) rfl rfl (by kernel_rfl) (fun _ _ _=>id) (AK rfl _ rfl (pq wb 0) (by simp [AF,AE,esz,e0,e3,e4])) hS ?_
   refine tk 6 (some 35) rfl rfl (by kernel_rfl) (fun _ _ _=>id) (AX rfl _ rfl (pK wb 0) (by simp [AF,AE,esz,e0,e3,e4])) hS ?_
   refine tk 7 (some 36) rfl rfl (by kernel_rfl) (fun _ _ _=>id) (AO rfl _ _ _ rfl (pq wb 0) (by simp [AF,AE,esz,e0,e3,e4]) (pq wb 1) (fun w'=>by go_simp)) hS ?_
   refine tk 8 (some 37) rfl rfl (by kernel_rfl) (fun _ _ _=>id) (AQ rfl _ _ rfl (pK wb 1) (by simp [AF,AE,esz,e0,e3,e4]) (pq kb 0) (AB R3)) hS ?_
   refine tk 9 (some 38) rfl rfl (by kernel_rfl) (fun _ _ _=>id) (AX rfl _ rfl (pK kb 0) (by simp [AF,AE,esz,e0,e3,e4])) hS ?_
   refine tk 10 (some 39) rfl rfl (by kernel_rfl) (fun _ _ _=>id) (AO rfl _ _ _ rfl (pq kb 0) (by simp [AF,AE,esz,e0,e3,e4]) (pq kb 5) (fun w'=>by go_simp)) hS ?_
   refine tk 11 (some 40) rfl rfl (by kernel_rfl) (fun _ _ _=>id) (AQ rfl _ _ rfl (pK kb 5) (by simp [AF,AE,esz,e0,e3,e4]) (.slice (some (pK gp 0)) AL.length pc) (AB R4)) hS ?_
   refine tk 12 (some 41) rfl rfl (by kernel_rfl) (fun _ _ _=>id) (AK rfl _ rfl (.int .i64 j) (by simp [AF,AE,esz,e0,e3,e4])) hS ?_
   refine tk 13 (some 42) rfl rfl (by kernel_rfl) (fun _ _ _=>id) (BM rfl _ _ _ rfl (.slice (some (pK gp 0)) AL.length pc) (.int .i64 j) (by simp [AF,AE,esz,e0,e3,e4]) (by simp [AF,AE,esz,e0,e3,e4]) (pq gp (j*31)) (fun w'=>by go_simp)) hS ?_
   refine tk 14 (some 43) rfl rfl (by kernel_rfl) (fun _ _ _=>id) (yieldsIf_load_mid (by simp [Region.wanted]) _ _ rfl gp (j*31) (by simp [AF,AE,esz,e0,e3,e4]) (BW p.pid p.par p.st p.su p.le p.pc p.R (.slice ab p.PS.length cb) p.F) _ (AB R2) Tryz.underlying80 rfl TK) hS ?_
   refine rdy [15] (by kernel_rfl) (AllReadyH.cons rfl (fun K hK=> ?_) AllReadyH.nil)
   refine NS rfl 58 29 33 43 _ _ _ rfl (pq wb 0) (.agg (NT OB p l).toArray) (.agg (BW p.pid p.par p.st p.su p.le p.pc p.R (.slice ab p.PS.length cb) p.F).toArray) (by simp [AF,AE,esz,e0,e3,e4]) (by simp [AF,AE,esz,e0,e3,e4]) (by simp [AF,AE,esz,e0,e3,e4]) X7 _ (.bool true) (fun e w' h=>h.1) (AB HSAME wr.drew HS0) (some 44) rfl ?_
   rintro w2 ⟨_,hb2⟩
   have hS2:Below wr.heap.size wr w2:=HS0.trans hb2
   refine hK.out _ _ hS2 (fun _=> ?_)
   clear hK K
   refine tk 16 (some 5) rfl rfl (by kernel_rfl) (fun _ _ _=>id) (Bj rfl (v:= .bool true) (fun w' _=>by simp only [execOp];simp [AF,AE,esz])) hS2 ?_
   refine wpAnyH_done (by kernel_rfl) ?_ _
   rw [AB HA]
   simp only [Act.put,zm,zi,zj]
   have hp2:=(AB HPP).below hS2
   have c22:w2.cell? (pK ag (j*24+22))=some (.slice l.aa p.PS.length l.ca):=hp2.row 22 _ rfl
   have HP2:=AC hp2
   have HR2:=AC ((AB HPR).below hS2)
   have HB2:=AC ((AB HB).trans (hS2.mono (by omega)))
   have hs2:=hS2.size
   have hpc:=hpk'.count
   clear hp2 hb2 HSAME R1 R2 R3 R4 HA e0 e3 e4 esz hS hS2 HS0
   go_wp2
   obtain ⟨ρ,hρ1,hρ0⟩:∃ρ:Option Nat,(0<p.PS.length->ρ=some l.ga)/\(¬0<p.PS.length->ρ=none):=by
    by_cases h0:0<p.PS.length
    ·exact ⟨some l.ga,fun _=>rfl,fun h=>absurd h0 h⟩
    ·exact ⟨none,fun h=>absurd h h0,fun _=>rfl⟩
   have HRO:=AC (And.intro hρ1 hρ0)
   clear hρ1 hρ0
   go_loopw [6] (fun i wq=>∃m:Nat,m<=p.PS.length/\i= .int .i64 m/\Hid (Hy wq l.ga p.PS.length)/\Hid (w2.grownBy wq ρ)/\Hid (wq.cell? (pK ag (j*24+22))=some (.slice l.aa p.PS.length l.ca))) (fun i _=>p.PS.length-(intOf i).toNat)
   case atStart=>exact ⟨0,by omega,rfl,AC (AB HP2).pgc,AC (zk _ _),AC c22⟩
   case round=>
    obtain ⟨m,hm,rfl,HPC,HG,HC⟩:=hrel
    have x22:=AB HC
    by_cases hml:m<p.PS.length
    ·obtain ⟨haa,hBg,hgl,hga⟩:=(AB HP2).aa (by omega)
     rw [haa] at x22
     obtain ⟨q1,q2,⟨X,q3⟩,q4⟩:=AB HPC m hml
     obtain ⟨V,q1⟩:=Option.isSome_iff_exists.1 q1
     have hm0:(0:Int)<=(m:Int):=by omega
     have hm1:(m:Int)<(p.PS.length:Int):=by omega
     have hro:=(AB HRO).1 (by omega)
     rw [hro] at HG
     obtain ⟨G,hG⟩:∃G,G=l.ga:=⟨_,rfl⟩
     rw [<-hG] at x22 q1 q2 q3 q4 hga HPC HG
     obtain ⟨W3,hW3⟩:∃W3,W3=wr.setCell (pK G (m*258)) (.int .i64 999):=⟨_,rfl⟩
     have hg3:wr.grownBy W3 (some G):=by rw [hW3];exact AS (zk wr (some G)) _ _
     have y22:W3.cell? (pK ag (j*24+22))=some (.slice (some (pK G 0)) p.PS.length l.ca):=hg3.cell x22 (by simp;exact fun e=>hga e.symm)
     have y2:W3.cell? (pK G (m*258+2))=some (.int .u8 X):=by rw [hW3,z7 _ _ _ _ (by simp<;>omega)];exact q3
     have yf:W3.frozen? (pK G (m*258+2))=false:=by rw [hW3];simpa using q4
     have HPC3:=AC (show Hy W3 G p.PS.length from by rw [hW3];exact (AB HPC).set _ _ (fun k hk e=>by omega))
     have HG3:=AC ((AB HG).trans hg3)
     have HW3:=AC hW3
     have HGG:=AC hG
     clear hW3 hg3 hG hro q3 q4 hgl hBg
     go_upto_region 14 with fail
     rw [<-AB HW3]
     clear x22 q1 q2
     go_region
     have HPC4:=AC (show Hy (W3.setCell (pK G (m*258+2)) (.int .u8 ((X+1)%256))).drew l.ga p.PS.length from by
      rw [<-AB HGG]
      exact (AB HPC3).set (m*258+2) (.int .u8 ((X+1)%256)) (fun k hk e=>⟨_,rfl⟩))
     have HG4:=AC (show w2.grownBy (W3.setCell (pK G (m*258+2)) (.int .u8 ((X+1)%256))).drew ρ from by
      rw [(AB HRO).1 (by omega),<-AB HGG]
      have h:=AS (AB HG3) (m*258+2) (.int .u8 ((X+1)%256))
      exact ⟨h.os,h.tape,h.output,h.size,h.block⟩)
     have HC4:=AC (show (W3.setCell (pK G (m*258+2)) (.int .u8 ((X+1)%256))).drew.cell? (pK ag (j*24+22))=some (.slice l.aa p.PS.length l.ca) from by
      rw [haa,<-AB HGG]
      exact (AS (zk W3 (some G)) (m*258+2) (.int .u8 ((X+1)%256))).cell y22 (by simp;exact fun e=>hga e.symm))
     clear y22 y2 yf
     go_wp2
     go_roundw
     case rel=>exact ⟨m+1,by omega,by go_num,HPC4,HG4,HC4⟩
     case measure=>simp [intOf];omega
    ·obtain ⟨hp,hl⟩:=AB HPL
     have HNX:=AC (show Ed wr w.heap.size ag (j+1) OB AL LS/\Below w.heap.size w wr from by
      by_cases h0:0<p.PS.length
      ·have hg:=AB HG
       rw [(AB HRO).1 h0] at hg
       have hBg:=((AB HP2).aa h0).2.1
       have hb2s:=(AB HB2).size
       exact ⟨(AB HR2).rest hp hl h0 hg,(AB HB2).trans ⟨hg.os,hg.tape,hg.output,hg.size,fun k hk=>hg.block k (by omega) (by simp;omega)⟩⟩
      ·have hg:=AB HG
       rw [(AB HRO).2 h0] at hg
       have hb2s:=(AB HB2).size
       have hbb:Below w2.heap.size w2 wr:=⟨hg.os,hg.tape,hg.output,hg.size,fun k hk=>hg.block k hk (by simp)⟩
       exact ⟨((AB HR2).below hbb).next,(AB HB2).trans (hbb.mono hb2s)⟩)
     have HSZ:=AC (show 0<AL.length->ag<wr.heap.size from fun _=>by have:=(AB HG).size;omega)
     go_wp2
     go_roundw
     case rel=>exact ⟨j+1,by omega,by go_num,AC (AB HNX).1,AC (AB HNX).2,HSZ⟩
     case measure=>simp [intOf];omega
  ·go_wp2
   go_ret
   exact ⟨rfl,AB HB⟩
end
section
open Go Go.RowKit
theorem Vv (w:World):Calls Tryz.prog 15 #[.agg #[.int .i64 0,.int .i64 0,.int .i64 0,.string ⟨#[]⟩,.slice none 0 0,.slice none 0 0]] w fun e w'=>e= .returned (.int .i64 0)/\Below w.heap.size w w':=by
 have HB0:=AC (show Below w.heap.size w (w.alloc (Obj.cells #[.int .i64 0,.int .i64 0,.int .i64 0,.string ⟨#[]⟩,.slice none 0 0,.slice none 0 0] 34)) from (zw _ _).alloc (zx _) _)
 go_enter Tryz.func15,Tryz.ntmps15
 go_wp2
 obtain ⟨W1,hW1⟩:∃W1,W1=w.alloc (Obj.cells #[.int .i64 0,.int .i64 0,.int .i64 0,.string ⟨#[]⟩,.slice none 0 0,.slice none 0 0] 34):=⟨_,rfl⟩
 go_loopw [3,4] (fun n i wr=>n= .int .i64 0/\i= .int .i64 0/\wr=w.alloc (Obj.cells #[.int .i64 0,.int .i64 0,.int .i64 0,.string ⟨#[]⟩,.slice none 0 0,.slice none 0 0] 34)) (fun _ _ _=>0)
 case atStart=>exact ⟨rfl,rfl,rfl⟩
 case round=>
  obtain ⟨rfl,rfl,rfl⟩:=hrel
  go_wp2
  go_ret
  exact ⟨rfl,AB HB0⟩
theorem Rf (lp lf lo li lb:Int) (fa:Option Addr) (fb foff fcap:Nat) (FZ:List AV) (sa:Option Addr) (sb sc n:Nat) (w:World) (hfa:0<FZ.length->fa=some (pK fb foff)) (hfb:0<FZ.length->fb<w.heap.size) (hf:WU w fb foff FZ) (hb:∀f∈FZ,f.path.size<=140737488355328/\f.bytes.length<=140737488355328) (hl:FZ.length<=140737488355328) (hsa:0<n->sa=some (pK sb 0)) (hs:0<n->CE w sb n) (hn:n<=400):
  Calls Tryz.prog 9 #[.agg #[.int .i64 lp,.int .i64 lf,.int .i64 lo,.int .i64 li,.int .i64 lb,.slice fa FZ.length fcap],.slice sa n sc] w fun e w'=>e= .returned (.bool (Ge FZ))/\Below w.heap.size w w':=by
 have HB0:=AC (show Below w.heap.size w (w.alloc (Obj.cells (Gd lp lf lo li lb (.slice fa FZ.length fcap)).toArray 26)) from (zw _ _).alloc (zx _) _)
 have HN0:=AC (AG.new w 26 (Gd lp lf lo li lb (.slice fa FZ.length fcap)))
 have HF:=AC hf
 have HFA:=AC hfa
 have HFB:=AC hfb
 have HSC:=AC (And.intro hsa hs)
 have HW:=AC (Lu (M:=281474976710656) (fun f hf=>by have:=hb f hf;unfold Eg;omega))
 have HBB:=AC hb
 have hn4:¬(400:Int)<(n:Int):=by omega
 clear hf hfa hfb hb hsa hs
 by_cases h100:FZ.length<=100
 case neg=>
  have hx:(100:Int)<(FZ.length:Int):=by omega
  have HR:=AC (show Ge FZ=false from by unfold Ge;rw [decide_eq_false h100];rfl)
  clear h100
  go_enter Tryz.func9,Tryz.ntmps9
  go_wp2
  go_ret
  exact ⟨by rw [AB HR];rfl,AB HB0⟩
 have hx:¬(100:Int)<(FZ.length:Int):=by omega
 go_enter Tryz.func9,Tryz.ntmps9
 go_wp2
 go_loopw [5,6] (fun n i wr=>∃j:Nat,j<=FZ.length/\i= .int .i64 j/\n= .int .i64 (Db FZ j)/\Hid (AG wr w.heap.size 26 (Gd lp lf lo li lb (.slice fa FZ.length fcap)))/\Hid (Below w.heap.size w wr)) (fun _ i _=>FZ.length-(intOf i).toNat)
 case atStart=>exact ⟨0,by omega,rfl,rfl,HN0,HB0⟩
 case round=>
  obtain ⟨j,hj,rfl,rfl,HS,HB⟩:=hrel
  have c5:wr.cell? (pK w.heap.size 5)=some (.slice fa FZ.length fcap):=(AB HS).cell rfl
  by_cases hlt:j<FZ.length
  ·obtain ⟨f,hf⟩:∃f,FZ[j]? =some f:=⟨_,zz hlt⟩
   obtain rfl:=(AB HFA) (by omega)
   have hfb:=AB HFB (by omega)
   obtain ⟨a,q,o,c,hcb,haq,hbv⟩:=(AB HF).bytes j f hf
   have d0:wr.cell? (pK fb (foff+j*3))=some (.string f.path):=by rw [(AB HB).cell (p:=(pK fb (foff+j*3))) hfb];exact (AB HF).path j f hf
   have d2:wr.cell? (pK fb (foff+j*3+2))=some (.slice a f.bytes.length c):=by rw [(AB HB).cell (p:=(pK fb (foff+j*3+2))) hfb];exact hcb
   have hsz:=AB HBB f (zv hf)
   have hw0:=AB HW j
   have hws:=Jc hf
   unfold Eg at hws
   have HWS:=AC hws
   obtain ⟨A,hA⟩:∃A,A=Db FZ j:=⟨_,rfl⟩
   rw [<-hA] at hw0 HWS ⊢
   have hA1:(A:Int)+(f.path.size:Int)<=100000000000000000:=by omega
   have hA2:(A:Int)+(f.path.size:Int)+(f.bytes.length:Int)<=100000000000000000:=by omega
   have hj0:(0:Int)<=(j:Int):=by omega
   have hj1:(j:Int)<(FZ.length:Int):=by omega
   have hj2:(j:Int)<=1000:=by omega
   generalize hps:f.path=ps at d0 HWS hA1 hA2 hsz
   generalize f.bytes.length=bl at d2 HWS hA2 hsz
   clear hf hcb haq hbv hws hA hsz hw0 hps
   go_wp2
   go_quiet (fail)
   go_wp2
   go_roundw
   case rel=>exact ⟨j+1,by omega,by go_num,by rw [AB HWS];go_num,AC ((AB HS).heap rfl),AC ⟨(AB HB).os,(AB HB).tape,(AB HB).output,(AB HB).size,(AB HB).block⟩⟩
   case measure=>simp [intOf];omega
  ·have hje:j=FZ.length:=by omega
   subst hje
   have HR:=AC (show Ge FZ=decide ((Db FZ FZ.length:Int)<=200000) from by
    unfold Ge Db
    rw [decide_eq_true h100,List.take_length,Bool.true_and]
    exact decide_eq_decide.2 (by omega))
   have hw0:=AB HW FZ.length
   generalize Db FZ FZ.length=A at HR hw0 ⊢
   have hA1:(A:Int)<=100000000000000000:=by omega
   have HS2:=AC (show 0<n->CE wr sb n from fun h0=>((AB HSC).2 h0).below (AB HB))
   clear hw0
   rename World=>wo
   go_wp2
   go_loopw [5,7] (fun nv iv w2=>∃k:Nat,k<=n/\nv= .int .i64 A/\iv= .int .i64 k/\Hid (0<n->CE w2 sb n)/\Hid (Below w.heap.size w w2)) (fun _ iv _=>n-(intOf iv).toNat)
   case atStart=>exact ⟨0,by omega,rfl,rfl,HS2,HB⟩
   case round=>
    obtain ⟨k,hk,rfl,rfl,HSK,HBK⟩:=hrel
    by_cases hkl:k<n
    ·have hsc:=AB HSK (by omega)
     obtain rfl:=(AB HSC).1 (by omega)
     have s3:wr.cell? (pK sb (k*10+3))=some (.int .i64 0):=hsc.cell hkl (j:=3) rfl
     have s4:wr.cell? (pK sb (k*10+4))=some (.int .i64 0):=hsc.cell hkl (j:=4) rfl
     have s5:wr.cell? (pK sb (k*10+5))=some (.int .i64 0):=hsc.cell hkl (j:=5) rfl
     have s6:wr.cell? (pK sb (k*10+6))=some (.string ⟨#[]⟩):=hsc.cell hkl (j:=6) rfl
     have s7:wr.cell? (pK sb (k*10+7))=some (.slice none 0 0):=hsc.cell hkl (j:=7) rfl
     have s8:wr.cell? (pK sb (k*10+8))=some (.slice none 0 0):=hsc.cell hkl (j:=8) rfl
     have HWN:=AC (Vv wr)
     have hk0:(0:Int)<=(k:Int):=by omega
     have hk1:(k:Int)<(n:Int):=by omega
     clear hsc
     go_wp2_with fail
     refine (AB HWN).mono ?_
     rintro e w3 ⟨rfl,hb3⟩
     have hsc3:=(AB HSK (by omega)).below hb3
     have t9:w3.cell? (pK sb (k*10+9))=some (.slice none 0 0):=hsc3.cell hkl (j:=9) rfl
     have HS3:=AC (show 0<n->CE w3 sb n from fun _=>hsc3)
     have HB3:=AC ((AB HBK).trans (hb3.mono (AB HBK).size))
     clear hsc3 hb3 HWN s3 s4 s5 s6 s7 s8
     go_wp2
     exact ⟨⟨k+1,by omega,by simp,by simp,HS3,HB3⟩,by simp only [intOf];omega⟩
    ·go_wp2
     go_ret
     exact ⟨by rw [AB HR];rfl,AB HBK⟩
theorem fR:(Tryz.prog.info? 36).map (fun i=>(i.zero,i.size,i.bytes))=some (some (.agg #[.int .i64 0,.int .i64 0,.int .i64 0,.int .i64 0,.int .i64 0,.int .i64 0,.string ByteArray.empty,.slice none 0 0,.slice none 0 0,.slice none 0 0]),10,136):=by kernel_rfl
def FS (n:Nat):List Value:=(List.replicate n (ET 1)).flatten
theorem GS (n:Nat):FS (n+1)=FS n++ET 1:=by unfold FS;rw [List.replicate_succ',List.flatten_append];simp
theorem Fd:∀n,(FS n).length=n*10
 |0=>rfl
 |n+1=>by rw [GS,zn,Fd n];show _+10=_;omega
theorem Jg:∀(n i j:Nat) (v:Value),i<n->(ET 1)[j]? =some v->(FS n)[i*10+j]? =some v
 |0,i,j,v,h,_=>by omega
 |n+1,i,j,v,h,hv=>by
  have hj:j<10:=(zy.1 hv).1
  rw [GS]
  by_cases hi:i<n
  ·rw [zp (by rw [Fd];omega)]
   exact Jg n i j v hi hv
  ·have:i=n:=by omega
   subst this
   rw [zo (by rw [Fd];omega),Fd,yj]
   exact hv
theorem Vw {w:World} {base g n cap:Nat} (h:w.ownsRow base 36 10 (.slice (some (pK g 0)) n cap) n (FS n)):CE w g n:=by
 rcases h.2 with ⟨e,_⟩|⟨g',cap',cur,e,_,hh,_,_,_,ht⟩
 ·cases e
 ·have eg:g=g':=by injection e with e;injection e with e;injection e
  subst eg
  refine ⟨cur.toList,hh,fun i hi j v hv=> ?_⟩
  have hj:j<10:=(zy.1 hv).1
  have h1:=Jg n i j v hi hv
  rw [<-ht] at h1
  rw [List.getElem?_take_of_lt (by omega)] at h1
  exact h1
theorem UB (lp lf lo li lb N:Int) (fv:Value) (w:World) (hN: -9223372036854775808<=N/\N<=9223372036854775807)
  (hlv:∀W,Below w.heap.size w W->Calls Tryz.prog 4 #[] W fun e w'=>e= .returned (.bool true)/\Below W.heap.size W w')
  (hpl:∀(n:Nat) (sa:Option Addr) (sb sc:Nat) (W:World),n<=400->Below w.heap.size w W->(0<n->sa=some (pK sb 0))->(0<n->CE W sb n)->Calls Tryz.prog 5 #[.agg #[.int .i64 lp,.int .i64 lf,.int .i64 lo,.int .i64 li,.int .i64 lb,fv],.slice sa n sc,.int .i64 0,.int .i64 1] W fun e w'=>e= .returned (.bool true)/\Below W.heap.size W w'):
  Calls Tryz.prog 3 #[.agg #[.int .i64 lp,.int .i64 lf,.int .i64 lo,.int .i64 li,.int .i64 lb,fv],.int .i64 N] w fun e w'=>e= .returned (.bool true)/\Below w.heap.size w w':=by
 obtain ⟨ii,hii,hz0,hz1,hz2⟩:=Eu fR
 have HII:=AC (And.intro hii (And.intro hz0 (And.intro hz1 hz2)))
 obtain ⟨W1,hW1⟩:∃W1,W1=w.alloc (Obj.cells #[.int .i64 lp,.int .i64 lf,.int .i64 lo,.int .i64 li,.int .i64 lb,fv] 26):=⟨_,rfl⟩
 have hb1:Below w.heap.size w W1:=by rw [hW1];exact (zw _ _).alloc (zx _) _
 have hr1:AG W1 w.heap.size 26 [.int .i64 lp,.int .i64 lf,.int .i64 lo,.int .i64 li,.int .i64 lb,fv]:=by rw [hW1];exact AG.new w 26 _
 obtain ⟨SB,hSB⟩:∃SB,SB=w.heap.size:=⟨_,rfl⟩
 rw [<-hSB] at hr1
 have HLV:=AC (hlv W1 hb1)
 have HW1:=AC hW1
 have HB1:=AC hb1
 have HR1:=AC hr1
 have HPL:=AC hpl
 obtain ⟨n,hnn⟩:∃n:Nat,(n:Int)=IntKind.i64.wrap ((IntKind.u64.wrap N).tmod 400):=⟨(IntKind.i64.wrap ((IntKind.u64.wrap N).tmod 400)).toNat,by
  have h0:=(Bl N).1
  rw [yn h0,yl]
  omega⟩
 have hn4:n<=400:=by
  have h0:=(Bl N).1
  rw [yn h0,yl] at hnn
  omega
 have q1:=hnn.symm
 clear hW1 hb1 hr1 hlv hpl hii hz0 hz1 hz2 hnn hN
 go_enter Tryz.func3,Tryz.ntmps3
 go_upto_region 1 with fail
 rw [<-AB HW1,<-hSB]
 clear HW1
 go_wp2_with fail
 refine (AB HLV).mono ?_
 rintro e w2 ⟨rfl,hb2⟩
 have HB2:=AC ((AB HB1).trans (hb2.mono (AB HB1).size))
 have HR2:=AC ((AB HR1).below hb2 (AB HR1).lt)
 have HSB:=AC hSB
 clear hb2 HLV hSB
 go_wp2
 go_loopw [6,7] (fun v i wr=>∃j:Nat,j<=n/\i= .int .i64 j/\Hid (wr.ownsRow w2.heap.size 36 10 v j (FS j))/\Hid (Below w2.heap.size w2 wr)) (fun _ i _=>n-(intOf i).toNat)
 case atStart=>exact ⟨0,by omega,rfl,AC (World.ownsRow_nil _ _ _ _),AC (zw _ _)⟩
 case round=>
  obtain ⟨j,hj,rfl,HOW,HBL⟩:=hrel
  have hsz:=(AB HBL).size
  have how:=AB HOW
  obtain ⟨sa,sc,hsv⟩:∃sa sc,u6= .slice sa j sc:=by
   rcases how.2 with ⟨e1,e2⟩|⟨g',c',_,e1,_⟩
   ·exact ⟨none,0,by rw [e1,e2]⟩
   ·exact ⟨_,c',e1⟩
  subst hsv
  clear how
  by_cases hlt:j<n
  ·have HNW:=AC (show ∀j u,([.int .i64 1,.int .i64 1,.int .i64 1,.int .i64 0,.int .i64 0,.int .i64 0,.string ⟨#[]⟩,.slice none 0 0,.slice none 0 0,.slice none 0 0]:List Value)[j]? =some u->(wr.alloc (Obj.cells #[.int .i64 1,.int .i64 1,.int .i64 1,.int .i64 0,.int .i64 0,.int .i64 0,.string ⟨#[]⟩,.slice none 0 0,.slice none 0 0,.slice none 0 0] 36)).cell? (((pK wr.heap.size 0):Addr).add j)=some u from by
    intro j u hj
    rw [Ky,zq]
    exact (AG.new wr 36 _).cell hj)
   have HON:=AC (show ∀u∈([.int .i64 1,.int .i64 1,.int .i64 1,.int .i64 0,.int .i64 0,.int .i64 0,.string ⟨#[]⟩,.slice none 0 0,.slice none 0 0,.slice none 0 0]:List Value),u.oneCell'=true from by
    intro u hu
    simp only [List.mem_cons,List.not_mem_nil,or_false] at hu
    rcases hu with rfl|rfl|rfl|rfl|rfl|rfl|rfl|rfl|rfl|rfl<;>rfl)
   go_wp2_with (at_builtin;refine wpList_append_lies _ (by rfl) _ _ 28 (by rfl) w2.heap.size 36 ii _ 10 136 Tryz.underlying28 (AB HII).1 (AB HII).2.1 (AB HII).2.2.1 (AB HII).2.2.2 rfl (by decide) _ _ _ (by rfl) ((AB HOW).alloc _) (pK wr.heap.size 0) 1 1 [.int .i64 1,.int .i64 1,.int .i64 1,.int .i64 0,.int .i64 0,.int .i64 0,.string ⟨#[]⟩,.slice none 0 0,.slice none 0 0,.slice none 0 0] (by rfl) (by rfl) (AB HNW) (AB HON) (by omega) (by unfold maxLen;omega) (by omega) (by simp;omega) (wr.heap.size+1) (by simp) ?_;intro g5 cap5 w5 hown5 hgrow5 hat5 hlt5)
   have hB5:Below w2.heap.size w2 w5:=((AB HBL).alloc (by omega) _).grown hgrow5 (by simp;omega) (by intro q h;have:=(AB HOW).lt q h;omega)
   exact ⟨⟨j+1,by omega,by simp,AC (by rw [GS];exact hown5),AC hB5⟩,by simp only [intOf];omega⟩
  ·have hje:j=n:=by omega
   subst hje
   have hrw:=(AB HR2).below (AB HBL) (AB HR2).lt
   have d0:=hrw.cell (j:=0) rfl
   have d1:=hrw.cell (j:=1) rfl
   have d2:=hrw.cell (j:=2) rfl
   have d3:=hrw.cell (j:=3) rfl
   have d4:=hrw.cell (j:=4) rfl
   have d5:=hrw.cell (j:=5) rfl
   have HP:=AC (AB HPL j sa (match sa with|some a=>a.block|none=>0) sc wr hn4 ((AB HB2).trans ((AB HBL).mono (AB HB2).size)) (fun h0=>by
     rcases (AB HOW).2 with ⟨e1,e2⟩|⟨g',c',_,e1,_⟩
     ·omega
     ·injection e1 with e1;subst e1;rfl) (fun h0=>by
     rcases (AB HOW).2 with ⟨e1,e2⟩|⟨g',c',_,e1,_⟩
     ·omega
     ·injection e1 with e1 e2 e3
      subst e1
      exact Vw (AB HOW)))
   clear hrw
   go_wp2_with fail
   refine (AB HP).mono ?_
   rintro e w6 ⟨rfl,hb6⟩
   have HB6:=AC (show Below w.heap.size w w6 from by
    have h1:=(AB HB2).trans ((AB HBL).mono (AB HB2).size)
    exact h1.trans (hb6.mono h1.size))
   clear hb6
   go_wp2
   go_ret
   exact ⟨rfl,AB HB6⟩
end
end Go.Proofs.YtdchgbmliojoiaaGreatDoor
