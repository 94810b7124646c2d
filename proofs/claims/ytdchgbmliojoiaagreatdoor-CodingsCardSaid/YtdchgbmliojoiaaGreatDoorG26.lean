import Derived.Test.YtdchgbmliojoiaaGreatDoorG25
import Derived.Test.YtdchgbmliojoiaaGreatDoorG24
import Derived.WalkSmall
set_option maxRecDepth 1000000
set_option maxHeartbeats 4000000
set_option linter.unusedVariables false
set_option linter.unusedSimpArgs false
namespace Go.Proofs.YtdchgbmliojoiaaGreatDoor
section
open Go Go.RowKit
def Cg (E:Int) (R:List Int) (S:List Value):List Value:=(Value.int .u64 E::R.map (Value.int .u64))++S
def AZ (E:Int) (R:List Int) (S:List Value) (pid par st su wk:Int) (fds:List Value):List Value:=
 Cg E R S++([.int .i64 pid,.int .i64 par,.int .i64 st,.int .i64 su,.int .i64 wk]++fds)
theorem cK:Tryz.zeroCells195.toList.take 17=List.replicate 17 (.int .u64 0):=by kernel_rfl
theorem cL:ZL ((Tryz.zeroCells195.toList.drop 17).take 65792)=true:=by kernel_rfl
theorem cM:(Tryz.zeroCells195.toList.drop 17).drop 65792=[.int .i64 0,.int .i64 0,.int .i64 0,.int .i64 0,.int .i64 0]++List.replicate 8 .nilIface:=by kernel_rfl
theorem eO:Tryz.zeroCells190.toList.take 17=List.replicate 17 (.int .u64 0):=by kernel_rfl
def Cb:List Int:=List.replicate 16 0
def IS:List Value:=List.replicate 8 .nilIface
theorem Bz {E:Int} {R:List Int} {S:List Value} (hR:R.length=16) (hS:S.length=65792):(Cg E R S).length=65809:=by unfold Cg;simp [hR,hS]
theorem XG:Tryz.zeroCells195.toList=AZ 0 Cb Ah 0 0 0 0 0 IS:=by
 have h2:=Mi _ cL
 have hl:Tryz.zeroCells195.toList.length=65822:=by rw [xu];exact Tryz.zeroCells195_size
 have h1:=cK
 have h3:=cM
 generalize Tryz.zeroCells195.toList=Z at h1 h2 h3 hl
 have hm:((Z.drop 17).take 65792).length=65792:=by rw [yv,List.length_drop,hl];rfl
 rw [hm] at h2
 have e1:Z=Z.take 17++((Z.drop 17).take 65792++(Z.drop 17).drop 65792):=by rw [List.take_append_drop,List.take_append_drop]
 rw [e1,h1,h2,h3]
 unfold AZ Cg Ah IS
 rw [<-ye]
 rfl
theorem Mo {α:Type} {A B:List α} {n j:Nat} (h:A.length=n) (v:α):(A++B).set (n+j) v=A++B.set j v:=by
 rw [List.set_append_right _ _ (by omega),h,yj]
theorem ZQ (pid par:Int):(Tryz.zeroCells195.setIfInBounds 65809 (.int .i64 pid)).setIfInBounds 65810 (.int .i64 par)=(AZ 0 Cb Ah pid par 0 0 0 IS).toArray:=by
 have h:=XG
 generalize Tryz.zeroCells195=ZA at h
 obtain ⟨Z⟩:=ZA
 have h:Z=_:=h
 rw [h,zm,zm]
 refine congrArg List.toArray ?_
 have hc:(Cg 0 Cb Ah).length=65809:=Bz (by unfold Cb;exact List.length_replicate) Ca
 unfold AZ
 rw [show (65810:Nat)=65809+1 from rfl,show (Cg 0 Cb Ah++([Value.int .i64 0,.int .i64 0,.int .i64 0,.int .i64 0,.int .i64 0]++IS)).set 65809 (.int .i64 pid)=_ from Mo (j:=0) hc _,Mo hc]
 rfl
def Dz (cb:Nat):Value:= .iface 99 (pq cb 0)
def DW (cb k:Nat):List Value:=List.replicate k (Dz cb)++List.replicate (8-k) .nilIface
theorem Ry (cb k:Nat) (h:k<8):(DW cb k).set k (Dz cb)=DW cb (k+1):=by
 unfold DW
 have e:=Mo (A:=List.replicate k (Dz cb)) (B:=List.replicate (8-k) Value.nilIface) (n:=k) (j:=0) List.length_replicate (Dz cb)
 rw [Nat.add_zero] at e
 rw [e,show 8-k=(8-(k+1))+1 by omega,List.replicate_succ,zi,List.replicate_succ',ye]
 rfl
theorem ZS {E:Int} {R:List Int} {S:List Value} {pid par st su wk:Int} {fds:List Value} (hR:R.length=16) (hS:S.length=65792) (k:Nat) (v:Value):(AZ E R S pid par st su wk fds).set (65814+k) v=AZ E R S pid par st su wk (fds.set k v):=by
 unfold AZ
 rw [show 65814+k=65809+(5+k) by omega,Mo (Bz hR hS)]
 congr 1
 exact Mo rfl v
theorem Cs:Cb.length=16:=by unfold Cb;exact List.length_replicate
theorem Mp (pid par:Int) (cb:Nat) (w:World):
  Calls Tryz.prog 34 #[.int .i64 pid,.int .i64 par,pq cb 0] w fun e w'=>e= .returned (pq w.heap.size 0)/\Below w.heap.size w w'/\AG w' w.heap.size 195 (AZ 0 Cb Ah pid par 0 0 0 (DW cb 3)):=by
 have hpn:=ZQ pid par
 obtain ⟨W1,hW1⟩:∃W1,W1=w.alloc (.cells (AZ 0 Cb Ah pid par 0 0 0 IS).toArray 195):=⟨_,rfl⟩
 have h1:AG W1 w.heap.size 195 (AZ 0 Cb Ah pid par 0 0 0 (DW cb 0)):=by rw [hW1];exact AG.new w 195 _
 have hb1:Below w.heap.size w W1:=by rw [hW1];exact (zw _ _).alloc (zx _) _
 have HW1:=AC hW1
 have H1:=AC h1
 have HB1:=AC hb1
 clear hW1 h1 hb1
 go_enter Tryz.func34,Tryz.ntmps34
 go_upto_region 2 with fail
 rw [<-AB HW1]
 clear hpn
 go_wp2
 go_loopw [13] (fun i wr=>∃k:Nat,k<=3/\i= .int .i64 k/\Hid (AG wr w.heap.size 195 (AZ 0 Cb Ah pid par 0 0 0 (DW cb k)))/\Hid (Below w.heap.size w wr)) (fun i _=>3-(intOf i).toNat)
 case atStart=>exact ⟨0,by omega,rfl,H1,HB1⟩
 case round=>
  obtain ⟨k,hk,rfl,HR,HB⟩:=hrel
  by_cases hlt:k<3
  ·have hk0:(0:Int)<=(k:Int):=by omega
   have hk1:(k:Int)<3:=by omega
   have hk8:(k:Int)<8:=by omega
   have hcl:(wr.cell? (pK w.heap.size (65814+k))).isSome=true:=by
    have hl:(AZ 0 Cb Ah pid par 0 0 0 (DW cb k)).length=65822:=by
     unfold AZ
     rw [zn,Bz Cs Ca]
     unfold DW
     simp;omega
    rw [(AB HR).cell (zz (show 65814+k<_ by rw [hl];omega))]
    rfl
   obtain ⟨ov,hov⟩:=Option.isSome_iff_exists.1 hcl
   have hfz:=(AB HR).frozen (65814+k)
   have HN:=AC (show AG (wr.setCell (pK w.heap.size (65814+k)) (Dz cb)) w.heap.size 195 (AZ 0 Cb Ah pid par 0 0 0 (DW cb (k+1)))/\Below w.heap.size w (wr.setCell (pK w.heap.size (65814+k)) (Dz cb)) from by
    refine ⟨?_,(AB HB).setCell (p:=(pK w.heap.size (65814+k))) (zx _) _⟩
    have:=(AB HR).set (65814+k) (Dz cb)
    rw [ZS Cs Ca,Ry cb k (by omega)] at this
    exact this)
   unfold Dz at HN
   clear hcl
   go_wp2
   exact ⟨⟨k+1,by omega,by simp,AC (AB HN).1,AC (AB HN).2⟩,by simp only [intOf];omega⟩
  ·have hke:k=3:=by omega
   subst hke
   go_wp2
   go_ret
   exact ⟨rfl,AB HB,AB HR⟩
end
section
open Go.RowKit
theorem Qt (lp lf lo lb:Int) (v1 v2 v3:Value) (w:World) (h:Fm lp lf lo 0 lb):
  Calls Tryz.prog 18 #[.agg #[.int .i64 lp,.int .i64 lf,.int .i64 lo,.int .i64 0,.int .i64 lb],v1,v2,v3] w fun e w'=>e=Im 12/\Below w.heap.size w w':=by
 obtain ⟨a1,a2,a3,a4,a5,a6,a7,a8,a9,a10⟩:=h
 have fin:∀(o1 o2:Obj),Below w.heap.size w ((w.alloc o1).alloc o2):=fun o1 o2=>((zw _ _).alloc (zx _) _).alloc (by simp) _
 have HF:=AC fin
 have b1:decide (lp<1)=false:=decide_eq_false (by omega)
 have b2:decide (16<lp)=false:=decide_eq_false (by omega)
 have b3:decide (lf<1)=false:=decide_eq_false (by omega)
 have b4:decide (1000<lf)=false:=decide_eq_false (by omega)
 have b5:decide (lo<0)=false:=decide_eq_false (by omega)
 have b6:decide (100000<lo)=false:=decide_eq_false (by omega)
 have b9:decide (lb<0)=false:=decide_eq_false (by omega)
 have b10:decide (100000<lb)=false:=decide_eq_false (by omega)
 clear fin a1 a2 a3 a4 a5 a6 a7 a8 a9 a10
 go_enter Tryz.func18,Tryz.ntmps18
 go_wp2
 go_ret2
 exact ⟨rfl,AB HF _ _⟩
def FX (lp lf lo li lb:Int) (FZ:List AV) (c:Int):Prop:=
 ¬Fm lp lf lo li lb/\c=6\/Fm lp lf lo li lb/\(li=0/\c=12\/li≠0/\MX lp lf lo li lb FZ c)
def E5 (lp lf lo li lb:Int) (FZ:List AV):Prop:=
 Fm lp lf lo li lb/\li≠0/\((B6 lp lf lo li lb).puts FZ).1=0/\((B6 lp lf lo li lb).puts FZ).2.ExecOk [0] 0 At [BI]
def S9 (lp lf lo li lb:Int) (FZ:List AV) (w:World) (e:Ending) (w':World):Prop:=
 Below w.heap.size w w'/\((∃c,FX lp lf lo li lb FZ c/\e=Im c)\/(E5 lp lf lo li lb FZ/\e=Ni w/\∃k cs g cap gp pc gn cn,EY ((B6 lp lf lo li lb).puts FZ).2 w w' k cs g cap gp pc gn cn))
theorem TA (lp lf lo li lb:Int) (pa da ba:Option Addr) (pb poff pcap db doff dcap bb boff bcap:Nat) (FZ:List AV) (w:World) (hn:FZ.length<=100) (hsum:(FZ.map (fun f=>f.bytes.length)).sum<=200000)
  (hpa:0<FZ.length->pa=some (pK pb poff)/\da=some (pK db doff)/\ba=some (pK bb boff)) (hf:MV w pb poff db doff bb boff FZ) (hlt:pb<w.heap.size/\db<w.heap.size/\bb<w.heap.size) (hps:∀f∈FZ,f.path.size<=maxLen/\AY f.bytes):
  Calls Tryz.prog 18 #[.agg #[.int .i64 lp,.int .i64 lf,.int .i64 lo,.int .i64 li,.int .i64 lb],.slice pa FZ.length pcap,.slice da FZ.length dcap,.slice ba FZ.length bcap] w fun e w'=>S9 lp lf lo li lb FZ w e w':=by
 by_cases hl:Fm lp lf lo li lb
 case neg=>
  refine (QY lp lf lo li lb _ _ _ w hl).mono ?_
  rintro e w' ⟨rfl,hb⟩
  exact ⟨hb,.inl ⟨6,.inl ⟨hl,rfl⟩,rfl⟩⟩
 by_cases h0:li=0
 ·subst h0
  refine (Qt lp lf lo lb _ _ _ w hl).mono ?_
  rintro e w' ⟨rfl,hb⟩
  exact ⟨hb,.inl ⟨12,.inr ⟨hl,.inl ⟨rfl,rfl⟩⟩,rfl⟩⟩
 ·refine (Ot lp lf lo li lb pa da ba pb poff pcap db doff dcap bb boff bcap FZ w hl h0 hn hsum hpa hf hlt hps).mono ?_
  rintro e w' ⟨hb,(⟨c,hc,rfl⟩|⟨hp,rfl,k,cs,g,cap,gp,pc,gn,cn,hbt⟩)⟩
  ·exact ⟨hb,.inl ⟨c,.inr ⟨hl,.inr ⟨h0,hc⟩⟩,rfl⟩⟩
  ·exact ⟨hb,.inr ⟨⟨hl,h0,hp,hbt.ok⟩,rfl,k,cs,g,cap,gp,pc,gn,cn,hbt⟩⟩
end
section
open Go Go.RowKit
def DB (s:Int):List PanicEntry:=[{v:= .iface 347 (.int .i64 s),recovered:=false}]
theorem LH {w:World} {bb bo n:Nat} {B:List Int} (hb:∀i,i<n->∃z,w.cell? (pK bb (bo+i))=some (.int .u8 z)):∀j,j<=n->∀i,i<j->(E7 w bb bo B j).cell? (pK bb (bo+i))=some (.int .u8 (B.getD i 0))
 |0,_,i,h=>by omega
 |j+1,hj,i,h=>by
  show ((E7 w bb bo B j).setCell (pK bb (bo+j)) _).cell? (pK bb (bo+i))=_
  by_cases e:i=j
  ·subst e
   obtain ⟨z,hz⟩:=hb i (by omega)
   exact z8 _ _ _ (by rw [J4 w bb bo B i i (zx _)];exact hz)
  ·have ho:bo+j≠bo+i:=by omega
   rw [z7 _ _ _ _ (fun q=>ho (by injection q))]
   exact LH hb j (by omega) i (by omega)
structure Fb (w:World) (pb so:Nat) (f g:Nat->Int):Prop where
 perm:∀j:Nat,j<256->w.cell? (pK pb (so+j*257))=some (.int .u8 (f j))
 byte:∀M K:Nat,M<256->K<256->w.cell? (pK pb (so+M*257+1+K))=some (.int .u8 (g (M*256+K)))
 fz:∀i,w.frozen? (pK pb i)=false
 bd:∀x,0<=g x/\g x<=255
theorem Fb.lt {w:World} {pb so:Nat} {f g:Nat->Int} (h:Fb w pb so f g):pb<w.heap.size:=zu w _ (h.perm 0 (by omega))
theorem Fb.below {w w':World} {pb so:Nat} {f g:Nat->Int} (h:Fb w pb so f g) (hb:Below w.heap.size w w'):Fb w' pb so f g:=
 ⟨fun j hj=>by rw [hb.cell (p:=(pK pb _)) h.lt];exact h.perm j hj,fun M K hM hK=>by rw [hb.cell (p:=(pK pb _)) h.lt];exact h.byte M K hM hK,fun i=>by rw [hb.frozen (p:=(pK pb i)) h.lt];exact h.fz i,h.bd⟩
def bytesOf (g:Nat->Int) (addr:Int) (n:Nat):List Int:=(List.range n).map fun i:Nat=>g (IntKind.u64.wrap (addr+(i:Int))).toNat
theorem VG {g:Nat->Int} (h:∀x,0<=g x/\g x<=255) (addr:Int) (n:Nat):AY (bytesOf g addr n):=by
 intro r
 rw [zl]
 cases hr:(bytesOf g addr n)[r]? with
 |none=>exact ⟨Int.le_refl 0,by decide⟩
 |some x=>
  obtain ⟨i,_,rfl⟩:=yw.1 (zv hr)
  exact h _
def aR (w:World) (f g:Nat->Int) (addr:Int) (n:Nat) (e:Ending) (w':World):Prop:=
 Below w.heap.size w w'/\(Ae f 4 addr n=true->e= .returned (.int .u64 (AW (bytesOf g addr n) 0 n)))/\(Ae f 4 addr n=false->e= .panicked (DB 131))
theorem aS (pb co:Nat) (f g:Nat->Int) (addr:Int) (n:Nat) (w:World) (h:Fb w pb (co+17) f g) (hn:n<=8) (ha:0<=addr/\addr<=18446744073709551615):
  Calls Tryz.prog 327 #[pq pb co,.int .u64 addr,.int .i64 n] w (aR w f g addr n):=by
 obtain ⟨W1,hW1⟩:∃W1,W1=w.alloc (Obj.cells #[.int .u8 0,.int .u8 0,.int .u8 0,.int .u8 0,.int .u8 0,.int .u8 0,.int .u8 0,.int .u8 0] 520):=⟨_,rfl⟩
 have hb1:Below w.heap.size w W1:=by rw [hW1];exact (zw _ _).alloc (zx _) _
 have hr1:AG W1 w.heap.size 520 (AJ (List.replicate 8 0)):=by rw [hW1];exact AG.new w 520 (AJ (List.replicate 8 0))
 have hz:∀i,i<n->∃z,W1.cell? (pK w.heap.size (0+i))=some (.int .u8 z):=fun i hi=>⟨_,by rw [zq];exact hr1.cell (AT _ i (by simp;omega))⟩
 have h1:=h.below hb1
 have HG:=AC (TV pb (co+17) w.heap.size 0 8 f g 4 addr n W1 (by omega) (by have:=h.lt;omega) ha hn h1.perm h1.byte hz (fun i=>hr1.frozen i))
 obtain ⟨b,hbm⟩:∃b,b=Ae f 4 addr n:=⟨_,rfl⟩
 obtain ⟨F,hF⟩:∃F,F=E7 W1 w.heap.size 0 (bytesOf g addr n) n:=⟨_,rfl⟩
 have hbF:Below w.heap.size w F:=by
  rw [hF]
  exact hb1.trans (Ag (IE _ _ _ _ _) (zx _) hb1.size)
 have HN:=AC (JU w.heap.size 0 n 8 (bytesOf g addr n) 0 F (VG h.bd addr n) hn (fun j hj=>by
  rw [hF,zq j]
  have:=LH (B:=bytesOf g addr n) hz n (zx _) j hj
  rwa [zq] at this))
 have HF:=AC hbF
 have HB1:=AC hb1
 have HW1:=AC hW1
 unfold aR
 rw [<-hbm] at HG ⊢
 change Hid (Calls _ _ _ _ (Wd b W1 (E7 W1 w.heap.size 0 (bytesOf g addr n) n))) at HG
 rw [<-hF] at HG
 have hn0:(0:Int)<=(n:Int):=by omega
 have hn1:(n:Int)<=8:=by omega
 clear hb1 hr1 hz h1 h hF hbF hbm hW1
 go_enter Tryz.func327,Tryz.ntmps327
 go_wp2_with fail
 rw [<-AB HW1]
 refine (AB HG).mono ?_
 rintro e w2 ⟨rfl,ht,hf⟩
 clear HG
 cases b with
 |false=>
  obtain rfl:=hf rfl
  go_wp2
  exact ⟨rfl,AB HB1,rfl⟩
 |true=>
  obtain rfl:=ht rfl
  clear ht hf
  go_wp2_with fail
  refine (AB HN).mono ?_
  rintro e w3 ⟨rfl,rfl⟩
  clear HN
  go_wp2
  go_ret
  exact ⟨AB HF,rfl⟩
def Pu (w:World) (pb co:Nat) (f:Nat->Int) (addr:Int) (n:Nat) (x:Int) (e:Ending) (w':World):Prop:=
 (Ae f 2 addr n=true->e= .returned (.tuple #[])/\∃W,Below w.heap.size w W/\Fa (CX W pb (co+17) addr ((A8 x).take n) n) w')/\(Ae f 2 addr n=false->e= .panicked (DB 131)/\Below w.heap.size w w')
theorem YK (pb co:Nat) (f g:Nat->Int) (addr:Int) (n:Nat) (x:Int) (w:World) (h:Fb w pb (co+17) f g) (hn:n<=8) (ha:0<=addr/\addr<=18446744073709551615):
  Calls Tryz.prog 329 #[pq pb co,.int .u64 addr,.int .i64 n,.int .u64 x] w (Pu w pb co f addr n x):=by
 obtain ⟨W1,hW1⟩:∃W1,W1=w.alloc (Obj.cells #[.int .u8 0,.int .u8 0,.int .u8 0,.int .u8 0,.int .u8 0,.int .u8 0,.int .u8 0,.int .u8 0] 520):=⟨_,rfl⟩
 obtain ⟨W2,hW2⟩:∃W2,W2=W1.alloc (Obj.cells #[.int .u64 x] 75):=⟨_,rfl⟩
 have hb1:Below w.heap.size w W1:=by rw [hW1];exact (zw _ _).alloc (zx _) _
 have hs1:W1.heap.size=w.heap.size+1:=by rw [hW1];simp
 have hb2:Below w.heap.size w W2:=by rw [hW2];exact hb1.alloc (by omega) _
 have hr1:AG W1 w.heap.size 520 (AJ (List.replicate 8 0)):=by rw [hW1];exact AG.new w 520 (AJ (List.replicate 8 0))
 have hr2:AG W2 w.heap.size 520 (AJ (List.replicate 8 0)):=by rw [hW2];exact hr1.below ((zw _ _).alloc (zx _) _) hr1.lt
 have hq2:AG W2 W1.heap.size 75 (Cw [x]):=by rw [hW2];exact AG.new W1 75 (Cw [x])
 have HP:=AC (KH w.heap.size 0 8 8 520 (List.replicate 8 0) W1.heap.size 1 75 [x] W2 hr2 hq2 (by omega) (by simp) (by simp) (by simp))
 have hsp:splice (List.replicate 8 (0:Int)) 0 (By [x])=A8 x:=by
  rw [show By [x]=A8 x from by simp [By]]
  exact Mg _ _ (by rw [Bn];simp)
 rw [hsp] at HP
 have hH:=h.lt
 have HS:=AC (show ∀W,Below w.heap.size w W->AG W w.heap.size 520 (AJ (A8 x))->Calls Tryz.prog 271 #[pq pb (co+17),.int .u64 addr,.slice (some (pK w.heap.size 0)) n 8] W (We (Ae f 2 addr n) W (CX W pb (co+17) addr ((A8 x).take n) n)) from fun W hb hr=>by
  have hw:=h.below hb
  refine aO pb (co+17) w.heap.size 0 8 f addr ((A8 x).take n) n W (by rw [yv,Bn];omega) (by omega) (by omega) ha hn hw.perm (fun M K hM hK=>⟨_,hw.byte M K hM hK⟩) (fun i hi=> ?_) hw.fz
  rw [zq]
  have e:((A8 x).take n).getD i 0=(A8 x).getD i 0:=by rw [zl,zl,xy,if_pos hi]
  rw [e]
  exact hr.cell (AT _ i (by rw [Bn];omega)))
 obtain ⟨b,hbm⟩:∃b,b=Ae f 2 addr n:=⟨_,rfl⟩
 have HW1:=AC hW1
 have HW2:=AC hW2
 have HB2:=AC hb2
 have HS1:=AC hs1
 unfold Pu
 rw [<-hbm] at HS ⊢
 have hn0:(0:Int)<=(n:Int):=by omega
 have hn1:(n:Int)<=8:=by omega
 clear hb1 hb2 hs1 hr1 hr2 hq2 hsp hH h hbm hW1 hW2
 go_enter Tryz.func329,Tryz.ntmps329
 go_wp2_with fail
 rw [<-AB HW1,<-AB HS1,<-AB HW2]
 refine (AB HP).mono ?_
 rintro e w3 ⟨rfl,hr3,hg3⟩
 have hb3:=(AB HB2).trans (Ag hg3 (zx _) (AB HB2).size)
 have HS3:=AC (AB HS w3.drew hb3.drew (hr3.below ⟨rfl,rfl,rfl,zx _,fun _ _=>rfl⟩ hr3.lt))
 have HB3:=AC hb3
 clear HS HP hr3 hg3 hb3
 go_wp2
 go_region_held (fun _=>True) (trivial) (first|(go_at_call 271;refine (AB HS3).mono ?_;rintro e w4 ⟨rfl,ht,hf⟩;have HT:=AC ht;have HF:=AC hf;clear ht hf))
 cases b with
 |false=>
  have hw:=AB HF rfl
  go_wp2
  exact ⟨rfl,rfl,(AB HB3).drew⟩
 |true=>
  have HT2:=AC (AB HT rfl)
  go_wp2
  go_end0
  exact ⟨rfl,_,(AB HB3).drew,AB HT2⟩
theorem DR {P:Program} {ops:Array Oper} {S:World->Prop} {o:Oper} {A:Act} (j d:Nat) (hg:o.guard=some (j,false)) (hj:(ops[j]?).bind (·.dst)=some d) (hd:d<A.tmps.size) (hv:A.eval (.tmp d)= .bool true):YieldsIf P ops S o undef A:=
 .inr ⟨K7 hg hj hd hv,rfl⟩
theorem YL (pb co:Nat) (PC:Int) (w:World) (h:w.cell? (pK pb co)=some (.int .u64 PC)) (h4:¬PC.tmod 4=0):
  Calls Tryz.prog 188 #[pq pb co] w fun e w'=>e= .panicked (DB 129)/\Below w.heap.size w w':=by
 obtain ⟨W1,hW1⟩:∃W1,W1=(w.alloc (Obj.cells #[.int .u8 0,.int .i64 0,.int .i64 0,.int .i16 0] 350)).alloc (Obj.cells #[.int .u8 0,.int .u8 0,.int .u8 0,.int .u8 0] 135):=⟨_,rfl⟩
 have hb1:Below w.heap.size w W1.drew:=by rw [hW1];exact (((zw _ _).alloc (zx _) _).alloc (by simp) _).drew
 have HS1:=AC (show W1.drew.cell? (pK pb co)=some (.int .u64 PC) from by rw [hb1.cell (p:=(pK pb co)) (zu w _ h)];exact h)
 have HB1:=AC hb1
 have HW1:=AC hW1
 have RF:=AC (show ∀w':World,(Instr.fieldAt 190 (pq pb co) 0).run Tryz.prog w'= .ok (pq pb co) w' from fun w'=>by clear h h4 hb1 hW1;go_simp)
 have RL:=AC (show ∀w':World,w'.cell? (pK pb co)=some (.int .u64 PC)->(Instr.loadAt 75 (pq pb co)).run Tryz.prog w'= .ok (.int .u64 PC) w' from fun w' c=>by clear h h4 hb1 hW1;go_simp)
 have RR:=AC (show ∀w':World,((do eqGuard .rem 75 (.tmp 9) (.const (.int .u64 4)) (.int .u64 PC) (.int .u64 4);binOp .rem 75 (.int .u64 PC) (.int .u64 4):Sem Value)).run Tryz.prog w'= .ok (.int .u64 (PC.tmod 4)) w' from fun w'=>by clear h h4 hb1 hW1;go_simp)
 have RN:=AC (show ∀w':World,((do eqGuard .neq 75 (.tmp 10) (.const (.int .u64 0)) (.int .u64 (PC.tmod 4)) (.int .u64 0);binOp .neq 75 (.int .u64 (PC.tmod 4)) (.int .u64 0):Sem Value)).run Tryz.prog w'= .ok (.bool true) w' from fun w'=>by
  clear h hb1 hW1
  obtain ⟨Z,hZ⟩:∃Z,Z=PC.tmod 4:=⟨_,rfl⟩
  rw [<-hZ] at h4 ⊢
  clear hZ
  go_simp)
 clear h hb1 hW1
 go_enter Tryz.func188,Tryz.ntmps188
 go_upto_region 2 with fail
 rw [<-AB HW1]
 refine BA ?_
 intro Ac hA
 have e0:Ac.eval (.tmp 0)= pq pb co:=by rw [hA];rfl
 have esz:Ac.tmps.size=34:=by rw [hA];rfl
 have HAC:=AC hA
 clear hA
 refine wp_region_held_drew (S:=fun W=>W.cell? (pK pb co)=some (.int .u64 PC)) (by kernel_rfl) (AB HS1) (fun hS=> ?_)
 refine tk 0 (some 6) rfl rfl (by kernel_rfl) (fun _ _ _=>id) (AK rfl _ rfl (pq pb co) (by simp [AF,AE,esz,e0,AI])) hS ?_
 refine tk 1 (some 7) rfl rfl (by kernel_rfl) (fun _ _ _=>id) (AX rfl _ rfl (pK pb co) (by simp [AF,AE,esz,e0,AI])) hS ?_
 refine tk 2 (some 8) rfl rfl (by kernel_rfl) (fun _ _ _=>id) (AO rfl _ _ _ rfl (pq pb co) (by simp [AF,AE,esz,e0,AI]) (pq pb co) (AB RF)) hS ?_
 refine tk 3 (some 9) rfl rfl (by kernel_rfl) (fun _ _ _=>id) (AQ rfl _ _ rfl (pK pb co) (by simp [AF,AE,esz,e0,AI]) (.int .u64 PC) (AB RL)) hS ?_
 refine tk 4 (some 10) rfl rfl (by kernel_rfl) (fun _ _ _=>id) (B7 rfl .rem _ _ (.tmp 9) (.const (.int .u64 4)) rfl (.int .u64 PC) (.int .u64 4) (by simp [AF,AE,esz,e0,AI]) rfl (.int .u64 (PC.tmod 4)) (AB RR)) hS ?_
 refine tk 5 (some 11) rfl rfl (by kernel_rfl) (fun _ _ _=>id) (B7 rfl .neq _ _ (.tmp 10) (.const (.int .u64 0)) rfl (.int .u64 (PC.tmod 4)) (.int .u64 0) (by simp [AF,AE,esz,e0,AI]) rfl (.bool true) (AB RN)) hS ?_
 refine tk 6 (some 12) rfl rfl (by kernel_rfl) (fun _ _ _=>id) (AK rfl _ rfl (.bool true) (by simp [AF,AE,esz,e0,AI])) hS ?_
 refine tk 7 (some 13) rfl rfl (by kernel_rfl) (fun _ _ _=>id) (DR 6 12 rfl rfl (by simp [AE,esz]) (by simp [AF,AE,esz,e0,AI])) hS ?_
 refine tk 8 (some 14) rfl rfl (by kernel_rfl) (fun _ _ _=>id) (DR 6 12 rfl rfl (by simp [AE,esz]) (by simp [AF,AE,esz,e0,AI])) hS ?_
 refine tk 9 (some 15) rfl rfl (by kernel_rfl) (fun _ _ _=>id) (DR 6 12 rfl rfl (by simp [AE,esz]) (by simp [AF,AE,esz,e0,AI])) hS ?_
 refine tk 10 (some 16) rfl rfl (by kernel_rfl) (fun _ _ _=>id) (DR 6 12 rfl rfl (by simp [AE,esz]) (by simp [AF,AE,esz,e0,AI])) hS ?_
 refine tk 11 (some 17) rfl rfl (by kernel_rfl) (fun _ _ _=>id) (DR 6 12 rfl rfl (by simp [AE,esz]) (by simp [AF,AE,esz,e0,AI])) hS ?_
 refine tk 12 (some 18) rfl rfl (by kernel_rfl) (fun _ _ _=>id) (DR 6 12 rfl rfl (by simp [AE,esz]) (by simp [AF,AE,esz,e0,AI])) hS ?_
 refine tk 13 (some 19) rfl rfl (by kernel_rfl) (fun _ _ _=>id) (DR 6 12 rfl rfl (by simp [AE,esz]) (by simp [AF,AE,esz,e0,AI])) hS ?_
 refine tk 14 (some 20) rfl rfl (by kernel_rfl) (fun _ _ _=>id) (DR 6 12 rfl rfl (by simp [AE,esz]) (by simp [AF,AE,esz,e0,AI])) hS ?_
 refine tk 15 (some 21) rfl rfl (by kernel_rfl) (fun _ _ _=>id) (DR 6 12 rfl rfl (by simp [AE,esz]) (by simp [AF,AE,esz,e0,AI])) hS ?_
 refine tk 16 (some 22) rfl rfl (by kernel_rfl) (fun _ _ _=>id) (DR 6 12 rfl rfl (by simp [AE,esz]) (by simp [AF,AE,esz,e0,AI])) hS ?_
 refine tk 17 (some 23) rfl rfl (by kernel_rfl) (fun _ _ _=>id) (Is rfl _ _ _ rfl true (.bool true) (by simp [AF,AE,esz,e0,AI]) (by simp [AI])) hS ?_
 refine wpAnyH_done (by kernel_rfl) ?_ _
 rw [AB HAC]
 simp only [Act.put,zm,zi,zj]
 clear RF RL RR RN HAC e0 esz hS HS1
 go_wp2
 exact ⟨rfl,rfl,AB HB1⟩
def aW (g:Nat->Int) (PC:Int):Value:= .agg #[.int .u8 (g PC.toNat),.int .i64 (g (PC.toNat+1)/16),.int .i64 (g (PC.toNat+1)%16),.int .i16 (IntKind.i16.wrap (g (PC.toNat+2)+g (PC.toNat+3)*256))]
def Pv (w:World) (f g:Nat->Int) (PC:Int) (e:Ending) (w':World):Prop:=
 Below w.heap.size w w'/\(Ae f 1 PC 4=false->e= .panicked (DB 129))/\(Ae f 1 PC 4=true->g PC.toNat<1\/24<g PC.toNat->e= .panicked (DB 130))/\(Ae f 1 PC 4=true->1<=g PC.toNat->g PC.toNat<=24->e= .returned (aW g PC))
theorem ey {g:Nat->Int} {PC:Int} (h0:0<=PC) (h1:PC<=18446744073709551615) (h4:PC.tmod 4=0) (i:Nat) (hi:i<4):(bytesOf g PC 4).getD i 0=g (PC.toNat+i):=by
 unfold bytesOf
 rw [zl,ze,xx hi]
 rw [yn h0] at h4
 show g (IntKind.u64.wrap (PC+(i:Int))).toNat=_
 rw [ym]
 congr 1
 omega
theorem Nv (pb co:Nat) (f g:Nat->Int) (PC:Int) (w:World) (h:w.cell? (pK pb co)=some (.int .u64 PC)) (hs:Fb w pb (co+17) f g) (h0:0<=PC) (h1:PC<=18446744073709551615) (h4:PC.tmod 4=0):
  Calls Tryz.prog 188 #[pq pb co] w (Pv w f g PC):=by
 obtain ⟨W0,hW0⟩:∃W0,W0=w.alloc (Obj.cells #[.int .u8 0,.int .i64 0,.int .i64 0,.int .i16 0] 350):=⟨_,rfl⟩
 obtain ⟨W1,hW1⟩:∃W1,W1=W0.alloc (Obj.cells #[.int .u8 0,.int .u8 0,.int .u8 0,.int .u8 0] 135):=⟨_,rfl⟩
 have hb0:Below w.heap.size w W0:=by rw [hW0];exact (zw _ _).alloc (zx _) _
 have hz0:W0.heap.size=w.heap.size+1:=by rw [hW0];simp
 have hb1:Below w.heap.size w W1.drew:=by rw [hW1];exact (hb0.alloc (by omega) _).drew
 have hl:pb<w.heap.size:=zu w _ h
 have hr0:AG W0 w.heap.size 350 [.int .u8 0,.int .i64 0,.int .i64 0,.int .i16 0]:=by rw [hW0];exact AG.new w 350 _
 have hr1:AG W1.drew w.heap.size 350 [.int .u8 0,.int .i64 0,.int .i64 0,.int .i16 0]:=by rw [hW1];exact hr0.below ((zw _ _).alloc (zx _) _).drew hr0.lt
 have hq1:AG W1.drew (w.heap.size+1) 135 (AJ (List.replicate 4 0)):=by
  rw [hW1,<-hz0]
  exact (AG.new W0 135 (AJ (List.replicate 4 0))).below ((zw _ _)).drew (AG.new W0 135 (AJ (List.replicate 4 0))).lt
 have hz:∀i,i<4->∃z,W1.drew.cell? (pK (w.heap.size+1) (0+i))=some (.int .u8 z):=fun i hi=>⟨_,by rw [zq];exact hq1.cell (AT _ i (by simp;omega))⟩
 have hs1:=hs.below hb1
 have HG:=AC (TV pb (co+17) (w.heap.size+1) 0 4 f g 1 PC 4 W1.drew (by omega) (by omega) ⟨h0,h1⟩ (by omega) hs1.perm hs1.byte hz (fun i=>hq1.frozen i))
 obtain ⟨F,hF⟩:∃F,F=E7 W1.drew (w.heap.size+1) 0 (bytesOf g PC 4) 4:=⟨_,rfl⟩
 have hgF:W1.drew.grownBy F (some (w.heap.size+1)):=by rw [hF];exact IE _ _ _ _ _
 have hbF:Below w.heap.size w F:=hb1.trans (Ag hgF (by omega) hb1.size)
 have hrF:AG F w.heap.size 350 [.int .u8 0,.int .i64 0,.int .i64 0,.int .i16 0]:=hr1.grown hgF (by simp)
 have hcF:∀i,i<4->F.cell? (pK (w.heap.size+1) i)=some (.int .u8 (g (PC.toNat+i))):=fun i hi=>by
  have:=LH (B:=bytesOf g PC 4) hz 4 (zx _) i hi
  rw [zq,ey h0 h1 h4 i hi,<-hF] at this
  exact this
 obtain ⟨b,hbm⟩:∃b,b=Ae f 1 PC 4:=⟨_,rfl⟩
 have HS1:=AC (show W1.drew.cell? (pK pb co)=some (.int .u64 PC) from by rw [hb1.cell (p:=(pK pb co)) hl];exact h)
 have HSF:=AC (show F.cell? (pK pb co)=some (.int .u64 PC) from by rw [hbF.cell (p:=(pK pb co)) hl];exact h)
 have HG2:=AC (show Calls Tryz.prog 244 #[pq pb (co+17),.slice (some (pK (w.heap.size+1) 0)) 4 4,.int .u64 PC,.int .u8 1] W1.drew (fun e w'=>∃t,e= .returned (.bool t)/\t=b/\(t=true->w'=F)/\(t=false->w'=W1.drew)) from by
  rw [hbm,hF]
  exact (AB HG).mono (fun e w' he=>⟨_,he.1,rfl,he.2.1,he.2.2⟩))
 have hd0:=hs.bd (PC.toNat+0)
 have hd1:=hs.bd (PC.toNat+1)
 have hd2:=hs.bd (PC.toNat+2)
 have hd3:=hs.bd (PC.toNat+3)
 have x0:=hcF 0 (by omega)
 have x1:=hcF 1 (by omega)
 have x2:=hcF 2 (by omega)
 have x3:=hcF 3 (by omega)
 unfold Pv aW
 rw [show g PC.toNat=g (PC.toNat+0) from rfl,<-hbm]
 generalize g (PC.toNat+0)=c0 at*
 generalize g (PC.toNat+1)=c1 at*
 generalize g (PC.toNat+2)=c2 at*
 generalize g (PC.toNat+3)=c3 at*
 have HX:=AC (show (F.cell? (pK (w.heap.size+1) 0)=some (.int .u8 c0)/\F.cell? (pK (w.heap.size+1) 1)=some (.int .u8 c1))/\(F.cell? (pK (w.heap.size+1) 2)=some (.int .u8 c2)/\F.cell? (pK (w.heap.size+1) 3)=some (.int .u8 c3)) from ⟨⟨x0,x1⟩,x2,x3⟩)
 have HRF:=AC hrF
 have HBF:=AC hbF
 have HB1:=AC hb1
 have HW0:=AC hW0
 have HW1:=AC hW1
 have HD:=AC (show (0<=c0/\c0<=255)/\(0<=c1/\c1<=255)/\(0<=c2/\c2<=255)/\0<=c3/\c3<=255 from ⟨hd0,hd1,hd2,hd3⟩)
 clear HG x0 x1 x2 x3 hd0 hd1 hd2 hd3 hcF hrF hbF hgF hF hs1 hz hq1 hr1 hr0 hb1 hb0 hz0 hW0 hW1 h hs hl hbm h0 h1
 go_enter Tryz.func188,Tryz.ntmps188
 go_upto_region 2 with fail
 rw [<-AB HW0,<-AB HW1]
 go_region_held (fun W=>W.cell? (pK pb co)=some (.int .u64 PC)) (first|exact AB HS1|exact AB HS2) (first|(go_at_call 244;refine (AB HG2).mono ?_;rintro e wn ⟨t,rfl,htb,ht,hf⟩;have HT:=AC htb;have HTT:=AC ht;have HTF:=AC hf;clear htb ht hf;have HS2:=AC (show wn.cell? (pK pb co)=some (.int .u64 PC) from by (cases t with|false=>rw [AB HTF rfl];exact AB HS1|true=>rw [AB HTT rfl];exact AB HSF))))
 clear HG2 HS2 HS1 HSF
 cases t with
 |false=>
  have hw:=AB HTF rfl
  have hb:=AB HT
  subst hw hb
  clear HTT HTF HT
  go_wp2
  exact ⟨rfl,AB HB1,rfl⟩
 |true=>
  have hw:=AB HTT rfl
  have hb:=AB HT
  subst hw hb
  clear HTT HTF HT
  obtain ⟨⟨x0,x1⟩,x2,x3⟩:=AB HX
  clear HX HW0 HW1 HB1
  obtain ⟨d0,d1,d2,d3⟩:=AB HD
  by_cases hop:1<=c0/\c0<=24
  ·have HDE:=AC (aV c0 c1 c2 c3 wn hop.1 hop.2 d1.1 d1.2 d2.1 d2.2 d3.1 d3.2)
   have HOP:=AC hop
   clear hop HD d0 d1 d2 d3
   go_wp2_with (first|(go_at_call 245;refine (AB HDE).mono ?_;rintro e w4 ⟨rfl,hb4⟩;have hr4:=(AB HRF).below hb4 (AB HRF).lt;have hl4:=hr4.lt;have y0:=hr4.cell (j:=0) rfl;have y1:=hr4.cell (j:=1) rfl;have y2:=hr4.cell (j:=2) rfl;have y3:=hr4.cell (j:=3) rfl;have f0:=hr4.frozen 0;have f1:=hr4.frozen 1;have f2:=hr4.frozen 2;have f3:=hr4.frozen 3;have hne:w.heap.size≠w4.heap.size:=(by omega);have HB4:=AC ((AB HBF).trans (hb4.mono (AB HBF).size));clear hb4 hr4 HDE x0 x1 x2 x3))
   have hs4:w.heap.size<=w4.heap.size:=Nat.le_of_lt hl4
   have hb6:=(GN (AB HB4) (zx _) (Value.int IntKind.u8 c0) (Value.int IntKind.i64 (c1/16)) (Value.int IntKind.i64 (c1%16)) (Value.int IntKind.i16 (IntKind.i16.wrap (c2+c3*256))))
   exact bodyPost_ret (v:= .agg #[.int .u8 c0,.int .i64 (c1/16),.int .i64 (c1%16),.int .i16 (IntKind.i16.wrap (c2+c3*256))]) (by simp [results,Tryz.results188,go_sem,y0,y1,y2,y3,hl4]) rfl ⟨hb6.alloc hb6.size _,fun h=>absurd (AB HOP) (by omega),fun _ _=>rfl⟩
  ·have HDE:=AC (dC c0 c1 c2 c3 wn (by omega))
   have HOP:=AC hop
   clear hop HD d0 d1 d2 d3
   go_wp2_with (first|(go_at_call 245;refine (AB HDE).mono ?_;rintro e w4 ⟨rfl,hb4⟩;have HB4:=AC ((AB HBF).trans (hb4.mono (AB HBF).size));clear hb4 HDE x0 x1 x2 x3))
   exact ⟨rfl,(AB HB4).alloc (AB HB4).size _,fun _=>rfl,fun h1 h2=>absurd ⟨h1,h2⟩ (AB HOP)⟩
def CD:List Value:=[.nilFunc,.func (.func 246) #[] #[],.func (.func 247) #[] #[],.func (.func 248) #[] #[],.func (.func 249) #[] #[],.func (.func 250) #[] #[],.func (.func 251) #[] #[],.func (.func 252) #[] #[],.func (.func 253) #[] #[],.func (.func 254) #[] #[],.func (.func 255) #[] #[],.func (.func 256) #[] #[],.func (.func 257) #[] #[],.func (.func 258) #[] #[],.func (.func 259) #[] #[],.func (.func 260) #[] #[],.func (.func 261) #[] #[],.func (.func 262) #[] #[],.func (.func 263) #[] #[],.func (.func 264) #[] #[],.func (.func 265) #[] #[],.func (.func 266) #[] #[],.func (.func 267) #[] #[],.func (.func 268) #[] #[],.func (.func 269) #[] #[]]
theorem Wf:(Tryz.prog.info? 354).map (·.size)=some 25:=by kernel_rfl
theorem dD:∀v∈CD,v.oneCell'=true:=by
 intro v hv
 have:CD.all (fun v=>v.oneCell')=true:=by kernel_rfl
 exact zb.1 this v hv
theorem Px (w:World):Calls Tryz.prog 189 #[] w fun e w'=>e= .returned (.agg CD.toArray)/\Below w.heap.size w w':=by
 have hn:=AG.new w 354 (List.replicate 25 .nilFunc)
 have HN:=AC hn
 clear hn
 go_enter Tryz.func189,Tryz.ntmps189
 go_upto_region 99 with (refine CK rfl 354 _ _ rfl w.heap.size CD (by rfl) (by rfl) 354 _ (AB HN) (by rw [Wf];rfl) (by rfl) dD ?_;intro w6 H6 G6)
 have h6:=AB H6
 exact ⟨rfl,.agg CD.toArray,Fg (by rfl) (by rfl) (run_loadVar_mid w6 w.heap.size 0 354 CD _ h6.range Tryz.underlying354 rfl (by rw [Wf];rfl)),rfl,((zw _ _).alloc (zx _) _).trans (Ag G6 (zx _) (by simp))⟩
end
end Go.Proofs.YtdchgbmliojoiaaGreatDoor
