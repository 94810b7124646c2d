import Derived.Test.YtdchgbmliojoiaaGreatDoorG36
import Derived.Test.YtdchgbmliojoiaaGreatDoorG38
import Derived.Test.YtdchgbmliojoiaaGreatDoorG33
import Derived.Test.YtdchgbmliojoiaaGreatDoorG37
set_option maxRecDepth 100000
set_option maxHeartbeats 1000000
set_option linter.unusedVariables false
set_option linter.unusedSimpArgs false
namespace Go.Proofs.YtdchgbmliojoiaaGreatDoor
section
open Go Go.RowKit Go.Maps
theorem VD {w:World} {m:Nat} (h:I0 w m) (cb:Nat):(Instr.lookup 317 (.map (some m)) (Dz cb) false).run Tryz.prog w= .ok (.int .i64 0) w:=by
 obtain ⟨c,hc⟩:=h
 have hcm:=Jd
 have hzv:(zeroValue 3).run Tryz.prog w= .ok (.int .i64 0) w:=by kernel_rfl
 cases hi:Tryz.prog.info? 99 with
 |none=>simp [hi] at hcm
 |some i=>
  have hcc:i.comparable=true:=by simpa [hi] using hcm
  have hk:∀d:Nat,(Instr.checkKey true (d+2) 192 (Dz cb)).run Tryz.prog w= .ok () w:=fun d=>by
   unfold Dz
   simp [Instr.checkKey,run_underlying Tryz.underlying192,run_underlying Tryz.underlying99,typeInfo,hi,hcc]
  have hk':=hk 9998
  have hgo:(getObj m).run Tryz.prog w= .ok (.map #[] c) w:=by simp [getObj,Sem.run,hc]
  simp [Instr.lookup,run_underlying Tryz.underlying317,hgo,Instr.findKey,Instr.findNow,run_underlying Tryz.underlying192,hk',hzv]
theorem aE (cb:Nat) (w:World):Calls Tryz.prog 473 #[pq cb 0] w fun e w'=>e= .returned (.tuple #[])/\w'=w:=by
 go_enter Tryz.func473,Tryz.ntmps473
 go_wp2
 go_end0
 exact ⟨rfl,rfl⟩
theorem aF (kb pm pb cb:Nat) (xs:List Value) (i:Nat) (w:World) (hi:i<8) (hk:w.cell? (pK kb 9)=some (.map (some pm))) (hk6:w.cell? (pK kb 6)=some (pq cb 0)) (hkl:kb<w.heap.size) (hkp:kb≠pb) (hmp:pm≠pb) (hm:A6 w pm pb) (hpl:pb<w.heap.size) (hx:GM cb xs) (hf:w.rangeAt pb 65814 xs) (hz:∀i,w.frozen? (pK pb i)=false):
  Calls Tryz.prog 194 #[pq kb 0,pq pb 0,.int .i64 i] w fun e w'=>e= .returned (.tuple #[])/\Below (w.setCell (pK pb (65814+i)) .nilIface).heap.size (w.setCell (pK pb (65814+i)) .nilIface) w':=by
 obtain ⟨x,hxe⟩:∃x,x=xs.getD i .nilIface:=⟨_,rfl⟩
 have hxl:=hx.1
 have hgx:xs[i]? =some x:=by rw [hxe,zl,zz (by omega)];rfl
 have hor:x=Dz cb\/x= .nilIface:=hx.2 x (zv hgx)
 have hcx:=hf i x hgx
 have hzi:=hz (65814+i)
 have i0:(0:Int)<=(i:Int):=by omega
 have i1:(i:Int)<8:=by omega
 obtain ⟨W1,hW1⟩:∃W1,W1=w.setCell (pK pb (65814+i)) .nilIface:=⟨_,rfl⟩
 have hg1:=AS (zk w (some pb)) (65814+i) .nilIface
 rw [<-hW1] at hg1 ⊢
 have hx1:GM cb (xs.set i .nilIface):=⟨by rw [yx];exact hx.1,fun y hy=>by
  rcases List.mem_or_eq_of_mem_set hy with h|h
  ·exact hx.2 y h
  ·exact .inr h⟩
 have hf1:W1.rangeAt pb 65814 (xs.set i .nilIface):=by rw [hW1];exact Bi hf (by omega) _
 have hs1:W1.heap.size=w.heap.size:=by rw [hW1];simp
 have HOB:=AC (Lx kb pm pb cb _ W1 (hg1.cell hk (by simpa using hkp)) (hg1.cell hk6 (by simpa using hkp)) (by omega) (hm.kept hg1 (by simpa using hmp)) (by omega) hx1 hf1)
 have HLK:=AC (fun ww (h:I0 ww W1.heap.size)=>VD h cb)
 have HW1:=AC hW1
 have HCL:=AC (aE cb)
 clear hx hf hz hxl hxe hgx hm hk hk6 hg1 hx1 hf1 hkl hkp hmp hpl hs1 hi hW1
 unfold Dz at hor HLK
 rcases hor with rfl|rfl
 ·go_enter Tryz.func194,Tryz.ntmps194
  go_wp2_with fail
  rw [<-AB HW1]
  refine (AB HOB).mono ?_
  rintro e w2 ⟨rfl,hn2,hb2⟩
  have hlk:=AB HLK w2 hn2
  have HB2:=AC hb2
  clear hn2 hb2
  have hmt:∀W:World,(method 711 99 (pq cb 0) "Close").run Tryz.prog W= .ok (473,pq cb 0) W:=fun W=>by kernel_rfl
  go_wp2_with (first|(go_at_call 473;refine (AB HCL _).mono ?_;rintro e w3 ⟨rfl,rfl⟩))
  go_end0
  exact ⟨rfl,AB HB2⟩
 ·go_enter Tryz.func194,Tryz.ntmps194
  go_wp2
  go_end0
  rw [<-AB HW1]
  exact ⟨rfl,zw _ _⟩
end
section
open Go Go.RowKit
theorem dB:(List.range 256).all (fun k:Nat=>((bits .and .u8 (k:Int) 1==0)==(bits .and .i64 (k:Int) 1==0))&&((bits .and .u8 (k:Int) 2==0)==(bits .and .i64 (k:Int) 2==0))&&((bits .and .u8 (k:Int) 4==0)==(bits .and .i64 (k:Int) 4==0)))=true:=by kernel_rfl
theorem aT {x perm:Int} (h0:0<=x) (h1:x<=255) (hp:perm=1\/perm=2\/perm=4):(bits .and .u8 x perm==0)=(bits .and .i64 x perm==0):=by
 have:=zb.1 dB x.toNat (zg.2 (by omega))
 rw [show ((x.toNat:Nat):Int)=x by omega] at this
 simp only [Bool.and_eq_true,beq_iff_eq] at this
 rcases hp with rfl|rfl|rfl
 ·exact this.1.1
 ·exact this.1.2
 ·exact this.2
theorem Q6 {PS:List Pg} (hok:∀q∈PS,0<=q.perm/\q.perm<=255) {perm x:Int} (hp:perm=1\/perm=2\/perm=4) (h0:0<=x):FY (Cx PS) perm x=(decide (x<65536)&&Do PS perm (x/256)):=by
 unfold FY Cx Do
 rw [show (((x/256).toNat:Nat):Int)=x/256 by omega]
 congr 1
 cases h:PS.find? (fun p=>p.num==x/256) with
 |none=>
  rcases hp with rfl|rfl|rfl<;>rfl
 |some q=>
  have:=hok q (yq h)
  exact congrArg _ (aT this.1 this.2 hp)
theorem Fk {PS:List Pg} (hok:∀q∈PS,0<=q.perm/\q.perm<=255) {perm addr:Int} {n:Nat} (hp:perm=1\/perm=2\/perm=4) (h0:0<=addr) (h1:addr<=18446744073709551615) (hn:1<=n) (hn8:n<=256):Ae (Cx PS) perm addr n=Bs PS addr n perm:=by
 have key:∀i:Nat,i<n->(FY (Cx PS) perm (IntKind.u64.wrap (addr+(i:Int)))=true↔IntKind.u64.wrap (addr+(i:Int))<65536/\Do PS perm (IntKind.u64.wrap (addr+(i:Int))/256)=true):=fun i hi=>by
  rw [Q6 hok hp (Bl _).1]
  simp
 rw [Bool.eq_iff_iff]
 unfold Ae Bs
 rw [if_neg (by omega),zb]
 constructor
 ·intro h
  have ha:addr<65536:=by
   have:=((key 0 hn).1 (h 0 (zg.2 hn))).1
   rw [ym] at this
   omega
  have hw:∀i:Nat,i<n->IntKind.u64.wrap (addr+(i:Int))=addr+(i:Int):=fun i hi=>by rw [ym];omega
  have hl:=((key (n-1) (by omega)).1 (h (n-1) (zg.2 (by omega)))).1
  rw [hw (n-1) (by omega)] at hl
  rw [if_neg (by omega),zb]
  intro j hj
  have hj:=zg.1 hj
  obtain ⟨i,hi,he⟩:∃i:Nat,i<n/\(addr+(i:Int))/256=addr/256+(j:Int):=by
   refine ⟨((addr/256+(j:Int))*256-addr).toNat,?_,?_⟩<;>omega
  have:=((key i hi).1 (h i (zg.2 hi))).2
  rw [hw i hi,he] at this
  exact this
 ·intro h i hi
  have hi:=zg.1 hi
  split at h
  ·cases h
  ·rename_i hc
   have hw:IntKind.u64.wrap (addr+(i:Int))=addr+(i:Int):=by rw [ym];omega
   refine (key i hi).2 ⟨by rw [hw];omega,?_⟩
   rw [hw]
   have:=zb.1 h ((addr+(i:Int))/256-addr/256).toNat (zg.2 (by omega))
   rw [show addr/256+((((addr+(i:Int))/256-addr/256).toNat:Nat):Int)=(addr+(i:Int))/256 by omega] at this
   exact this
theorem L8 {PS:List Pg} (hok:∀q∈PS,0<=q.perm/\q.perm<=255) {PC:Int} (h0:0<=PC) (h1:PC<=18446744073709551615) (h4:PC%4=0):Ae (Cx PS) 1 PC 4=Bs PS PC 1 1:=by
 rw [Fk hok (.inl rfl) h0 h1 (by omega) (by omega)]
 unfold Bs
 rw [show ((4:Nat):Int)=4 from rfl,if_neg (show ¬(4:Int)=0 by decide),if_neg (show ¬(1:Int)=0 by decide)]
 by_cases hc:(4:Int)<0\/65536<=PC\/65536-PC<4
 ·rw [if_pos hc,if_pos (show (1:Int)<0\/65536<=PC\/65536-PC<1 by omega)]
 ·rw [if_neg hc,if_neg (show ¬((1:Int)<0\/65536<=PC\/65536-PC<1) by omega),show (PC+4-1)/256=(PC+1-1)/256 by omega]
theorem aU {PS:List Pg} {perm addr:Int} {n:Nat} (h0:0<=addr) (h:Bs PS addr n perm=true) {i:Nat} (hi:i<n):addr+(i:Int)<65536/\∃q,PS.find? (fun p=>p.num==(addr+(i:Int))/256)=some q:=by
 unfold Bs at h
 rw [if_neg (by omega)] at h
 split at h
 ·cases h
 ·rename_i hc
  refine ⟨by omega,?_⟩
  have:=zb.1 h ((addr+(i:Int))/256-addr/256).toNat (zg.2 (by omega))
  rw [show addr/256+((((addr+(i:Int))/256-addr/256).toNat:Nat):Int)=(addr+(i:Int))/256 by omega] at this
  unfold Do at this
  cases hf:PS.find? (fun p=>p.num==(addr+(i:Int))/256) with
  |none=>rw [hf] at this;cases this
  |some q=>exact ⟨q,rfl⟩
def Kj (PS:List Pg) (x:Nat):Int:=Ap PS (x:Int)
theorem Nu {PS:List Pg} {perm addr:Int} {n:Nat} (h0:0<=addr) (h:Bs PS addr n perm=true):bytesOf (Kj PS) addr n=Bd PS addr n:=by
 unfold bytesOf Bd
 refine List.map_congr_left fun i hi=> ?_
 have:=aU h0 h (zg.1 hi)
 unfold Kj
 rw [ym]
 congr 1
 omega
theorem Q7 (p:Pg) (PS:List Pg) (x v:Int):DV (p::PS) x v=if p.num==x/256 then ⟨p.num,p.perm,p.bytes.set (x%256).toNat v⟩::PS else p::DV PS x v:=by
 unfold DV
 rw [List.findIdx?_cons]
 by_cases h:(p.num==x/256)=true
 ·rw [if_pos h,if_pos h]
  rfl
 ·rw [if_neg h,if_neg h]
  cases hf:PS.findIdx? (fun p=>p.num==x/256) with
  |none=>rfl
  |some k=>
   simp only [Option.map_some,List.getElem?_cons_succ]
   cases hk:PS[k]? with
   |none=>rfl
   |some q=>rfl
theorem LI (x v n:Int):∀PS:List Pg,(DV PS x v).find? (fun p=>p.num==n)=(PS.find? (fun p=>p.num==n)).map (fun q=>if n=x/256 then ⟨q.num,q.perm,q.bytes.set (x%256).toNat v⟩ else q)
 |[]=>rfl
 |p::PS=>by
  rw [Q7]
  by_cases hn:p.num=n
  ·subst hn
   by_cases h:p.num=x/256
   ·rw [if_pos (by simpa using h)]
    simp [h]
   ·rw [if_neg (by simpa using h)]
    simp [h]
  ·by_cases h:p.num=x/256
   ·rw [if_pos (by simpa using h)]
    have hx:¬n=x/256:=fun e=>hn (h.trans e.symm)
    simp [hn,hx]
   ·rw [if_neg (by simpa using h)]
    simp only [List.find?_cons,show (p.num==n)=false by simpa using hn]
    exact LI x v n PS
theorem VH {PS:List Pg} (hb:∀p∈PS,p.bytes.length=256) {x:Int} (h0:0<=x) (h1:x<65536) {q:Pg} (hq:PS.find? (fun p=>p.num==x/256)=some q) (v:Int):(Af PS).set (Eh 0 x) (.int .u8 v)=Af (DV PS x v):=by
 have hb2:∀p∈DV PS x v,p.bytes.length=256:=fun p hp=>by
  obtain ⟨k,hk⟩:=yo.1 hp
  obtain ⟨r,h1,_,_,h3⟩:=GO (J3 PS x v).symm hk
  rw [<-h3];exact hb r (zv h1)
 have hl1:=BD hb
 have hl2:=BD hb2
 refine List.ext_getElem? fun m=> ?_
 by_cases hm:m<65792
 ·obtain ⟨j,k,hj,hk,rfl⟩:∃j k,j<256/\k<257/\m=j*257+k:=⟨m/257,m%257,by omega,by omega,by omega⟩
  rw [Gz hb2 j k hj hk,yy,Gz hb j k hj hk]
  unfold Cv
  rw [LI]
  unfold Eh
  by_cases hjx:(j:Int)=x/256
  ·rw [hjx,hq]
   simp only [Option.map_some,if_true]
   unfold Bw AJ
   have hq256:=hb q (yq hq)
   cases k with
   |zero=>
    rw [if_neg (by omega)]
    rfl
   |succ k=>
    simp only [List.getElem?_cons_succ,ze,yy]
    by_cases hkx:(k:Int)=x%256
    ·rw [if_pos (by omega),if_pos (by omega),if_pos (by omega),if_pos (by omega)]
     rfl
    ·rw [if_neg (by omega),if_neg (by omega)]
  ·rw [if_neg (by omega)]
   cases hf:PS.find? (fun p=>p.num==(j:Int)) with
   |none=>rfl
   |some r=>simp only [Option.map_some,if_neg hjx]
 ·rw [yz (by rw [yx];omega),yz (by omega)]
theorem RU (E E':Int) (R:List Int) (S:List Value) (pid par st su wk:Int) (fds:List Value):(AZ E R S pid par st su wk fds).set 0 (.int .u64 E')=AZ E' R S pid par st su wk fds:=rfl
theorem Ny (E v:Int) {R:List Int} (S:List Value) (pid par st su wk:Int) (fds:List Value) {a:Nat} (ha:a<R.length):(AZ E R S pid par st su wk fds).set (1+a) (.int .u64 v)=AZ E (R.set a v) S pid par st su wk fds:=by
 unfold AZ Cg
 rw [Nat.add_comm,List.set_append_left _ _ (by simp;omega),List.set_append_left _ _ (by simp;omega),zj,List.map_set]
theorem O4 (E:Int) {R:List Int} (hR:R.length=16) (S:List Value) (pid par st su wk:Int) (fds:List Value) {k:Nat} (hk:k<S.length) (v:Value):(AZ E R S pid par st su wk fds).set (17+k) v=AZ E R (S.set k v) pid par st su wk fds:=by
 unfold AZ Cg
 have h1:(Value.int .u64 E::R.map (Value.int .u64)).length=17:=by simp [hR]
 rw [List.set_append_left _ _ (by rw [zn,h1];omega),List.set_append_right _ _ (by omega),h1,yj]
def CT (p:AP) (wk:Int) (fds:List Value):List Value:=AZ p.pc p.R (Af p.PS) p.pid p.par p.st p.su wk fds
section
variable {w : World} {pb : Nat} {p : AP} {wk : Int} {fds : List Value}
theorem C9 (h:AG w pb 195 (CT p wk fds)) (hc:Can p) (hok:As p.PS):G9 w pb 0 p.pc p.R:=by
 have hSl:(Af p.PS).length=65792:=BD (fun q hq=>(hok.each q hq).2.2.2.2)
 refine ⟨h.cell rfl,fun r hr=> ?_,fun i=>h.frozen i⟩
 have:=h.cell (TN hc.api.regs hSl r (.int .u64 (p.R.getD r 0)) (by
  unfold C8
  rw [ze,zz (by rw [hc.api.regs];exact hr),zl,zz (by rw [hc.api.regs];exact hr)]
  rfl))
 rw [show 0+1+r=1+r by omega]
 exact this
theorem Fc (h:AG w pb 195 (CT p wk fds)) (hc:Can p) (hok:As p.PS):Fb w pb (0+17) (Cx p.PS) (Kj p.PS):=by
 have hb:∀q∈p.PS,q.bytes.length=256:=fun q hq=>(hok.each q hq).2.2.2.2
 have hSl:(Af p.PS).length=65792:=BD hb
 have hsp:w.rangeAt pb 17 (Af p.PS):=fun j v hv=>h.cell (LG hc.api.regs hSl j v hv)
 refine ⟨fun j hj=>(IC hok hsp hj).1,fun M K hM hK=> ?_,fun i=>h.frozen i,fun x=>F9 hc.ok.pages _⟩
 have e:0+17+M*257+1+K=17+(M*257+(K+1)):=by omega
 rw [e]
 refine hsp _ _ ?_
 rw [Gz hb M (K+1) hM (by omega)]
 unfold Cv Kj Ap
 rw [show ((M*256+K:Nat):Int)/256=(M:Int) by omega,show (((M*256+K:Nat):Int)%256).toNat=K by omega]
 cases hf:p.PS.find? (fun q=>q.num==(M:Int)) with
 |none=>
  show (List.replicate 257 (Value.int .u8 0))[K+1]? =some (.int .u8 0)
  rw [xw,if_pos (by omega)]
 |some q=>
  show (Value.int .u8 q.perm::AJ q.bytes)[K+1]? =_
  rw [List.getElem?_cons_succ]
  exact AT _ K (by rw [hb q (yq hf)];exact hK)
theorem GQ (PS:List Pg) (PC:Int):((AH PS PC).2=129/\¬(Bs PS PC 1 1=true/\PC%4=0))\/((AH PS PC).2=130/\Bs PS PC 1 1=true/\PC%4=0/\(Ap PS PC<1\/24<Ap PS PC))\/((AH PS PC).2=0/\Bs PS PC 1 1=true/\PC%4=0/\¬(Ap PS PC<1\/24<Ap PS PC)/\(AH PS PC).1=⟨Ap PS PC,Ap PS (PC+1)/16,Ap PS (PC+1)%16,IntKind.i16.wrap (Ap PS (PC+2)+Ap PS (PC+3)*256)⟩):=by
 unfold AH
 by_cases h:Bs PS PC 1 1=true/\PC%4=0
 ·rw [if_pos h]
  by_cases h2:Ap PS PC<1\/24<Ap PS PC
  ·rw [if_pos h2];exact .inr (.inl ⟨rfl,h.1,h.2,h2⟩)
  ·rw [if_neg h2];exact .inr (.inr ⟨rfl,h.1,h.2,h2,rfl⟩)
 ·rw [if_neg h];exact .inl ⟨rfl,h⟩
theorem Hb (hok:As p.PS):∀q∈p.PS,0<=q.perm/\q.perm<=255:=fun q hq=>⟨by have:=(hok.each q hq).2.2.1;omega,(hok.each q hq).2.2.2.1⟩
theorem VR (h:AG w pb 195 (CT p wk fds)) (hc:Can p) (hok:As p.PS) (hs:0<(AH p.PS p.pc).2) (W:World) (hW:Below w.heap.size w W):Calls Tryz.prog 188 #[pq pb 0] W fun e w'=>e= .panicked (DB (AH p.PS p.pc).2)/\Below W.heap.size W w':=by
 have h:=h.below hW h.lt
 have hcp:=C9 h hc hok
 have hpc:=hc.ok.pc
 have hm:p.pc.tmod 4=p.pc%4:=yn hpc.1
 by_cases h4:p.pc%4=0
 ·refine (Nv pb 0 (Cx p.PS) (Kj p.PS) p.pc W hcp.pc (Fc h hc hok) hpc.1 hpc.2 (by rw [hm];exact h4)).mono ?_
  rintro e w' ⟨hb,h1,h2,h3⟩
  refine ⟨?_,hb⟩
  rw [L8 (Hb hok) hpc.1 hpc.2 h4] at h1 h2
  have hg:Kj p.PS p.pc.toNat=Ap p.PS p.pc:=by unfold Kj;rw [show ((p.pc.toNat:Nat):Int)=p.pc by omega]
  rw [hg] at h2
  rcases GQ p.PS p.pc with ⟨e1,e2⟩|⟨e1,e2,e3,e4⟩|⟨e1,_⟩
  ·rw [e1]
   exact h1 (by cases hp:Bs p.PS p.pc 1 1 with|false=>rfl|true=>exact absurd ⟨hp,h4⟩ e2)
  ·rw [e1];exact h2 e2 e4
  ·omega
 ·refine (YL pb 0 p.pc W hcp.pc (by rw [hm];exact h4)).mono ?_
  rintro e w' ⟨he,hb⟩
  rcases GQ p.PS p.pc with ⟨e1,e2⟩|⟨e1,e2,e3,e4⟩|⟨e1,e2,e3,e4⟩
  ·rw [e1];exact ⟨he,hb⟩
  ·exact absurd e3 h4
  ·exact absurd e3 h4
theorem Nz (h:AG w pb 195 (CT p wk fds)) (hc:Can p) (hok:As p.PS) (hs:(AH p.PS p.pc).2=0) (W:World) (hW:Below w.heap.size w W):Calls Tryz.prog 188 #[pq pb 0] W fun e w'=>e= .returned (.agg #[.int .u8 (AH p.PS p.pc).1.op,.int .i64 ((AH p.PS p.pc).1.a.toNat:Int),.int .i64 ((AH p.PS p.pc).1.b.toNat:Int),.int .i16 (AH p.PS p.pc).1.im])/\Below W.heap.size W w':=by
 have h:=h.below hW h.lt
 have hcp:=C9 h hc hok
 have hpc:=hc.ok.pc
 have hm:p.pc.tmod 4=p.pc%4:=yn hpc.1
 rcases GQ p.PS p.pc with ⟨e1,e2⟩|⟨e1,e2,e3,e4⟩|⟨e1,e2,e3,e4,e5⟩
 ·omega
 ·omega
 ·refine (Nv pb 0 (Cx p.PS) (Kj p.PS) p.pc W hcp.pc (Fc h hc hok) hpc.1 hpc.2 (by rw [hm];exact e3)).mono ?_
  rintro e w' ⟨hb, -, -,h3⟩
  refine ⟨?_,hb⟩
  rw [L8 (Hb hok) hpc.1 hpc.2 e3] at h3
  have hb1:=F9 hc.ok.pages (p.pc+1)
  unfold aW Kj at h3
  rw [show ((p.pc.toNat:Nat):Int)=p.pc by omega,show ((p.pc.toNat+1:Nat):Int)=p.pc+1 by omega,show ((p.pc.toNat+2:Nat):Int)=p.pc+2 by omega,show ((p.pc.toNat+3:Nat):Int)=p.pc+3 by omega] at h3
  rw [e5,h3 e2 (by omega) (by omega)]
  show _=Ending.returned (.agg #[.int .u8 (Ap p.PS p.pc),.int .i64 ((Ap p.PS (p.pc+1)/16).toNat:Int),.int .i64 ((Ap p.PS (p.pc+1)%16).toNat:Int),_])
  rw [show (((Ap p.PS (p.pc+1)/16).toNat:Nat):Int)=Ap p.PS (p.pc+1)/16 by omega,show (((Ap p.PS (p.pc+1)%16).toNat:Nat):Int)=Ap p.PS (p.pc+1)%16 by omega]
end
theorem dM {w:World} {pb co:Nat} {PC U V op:Int} {a b:Nat} {im:Int} (K:Parts2 w pb co PC U V op a b im):Calls Tryz.prog 257 #[pq pb co,.agg #[.int .u8 op,.int .i64 (a:Int),.int .i64 (b:Int),.int .i16 im]] w (C4 w pb co PC a (IntKind.u64.wrap (U*2^(V%64).toNat))):=by
 obtain ⟨Z,hZ⟩:∃Z,Z=V%64:=⟨_,rfl⟩
 have HPL:=AC K.pl
 have hz0:0<=Z:=by omega
 have hz1:Z<=64:=by omega
 rw [<-hZ] at HPL ⊢
 clear hZ
 have HK:=AC K
 have HB:=AC (Ad.new w op a b im).drew
 have BX:=AC (Ad.new w op a b im).drew.c
 clear K
 go_enter Tryz.func257,Tryz.ntmps257
 go_wp2
 go_region_held (fun W=>W.cell? (pK w.heap.size 0)=some (.int .u8 op)/\W.cell? (pK w.heap.size 1)=some (.int .i64 (a:Int))/\W.cell? (pK w.heap.size 2)=some (.int .i64 (b:Int))/\W.cell? (pK w.heap.size 3)=some (.int .i16 im)) (exact AB BX) (first|(go_at_call 324;refine ((AB HK).ra _ (AB HB)).mono ?_;rintro e wn ⟨rfl,hb⟩;clear HB BX;have BX:=AC hb.c;have HB:=AC hb;clear hb)|(go_at_call 326;refine (AB HPL _ (AB HB)).mono ?_;rintro e wn ⟨rfl,hb⟩;clear HB BX;have BX:=AC hb.c;have HB:=AC hb;clear hb)|(go_at_call 321;refine ((AB HK).be _ _ (AB HB)).mono ?_;rintro e wn ⟨rfl,hb,hc⟩;clear BX;have BX:=AC hb;have HC:=AC hc;clear hb hc))
 go_wp2
 go_ret
 exact ⟨rfl,AB HC⟩
theorem dN {w:World} {pb co:Nat} {PC U V op:Int} {a b:Nat} {im:Int} (K:Parts2 w pb co PC U V op a b im):Calls Tryz.prog 258 #[pq pb co,.agg #[.int .u8 op,.int .i64 (a:Int),.int .i64 (b:Int),.int .i16 im]] w (C4 w pb co PC a (U/2^(V%64).toNat)):=by
 obtain ⟨Z,hZ⟩:∃Z,Z=V%64:=⟨_,rfl⟩
 have HPL:=AC K.pl
 have hz0:0<=Z:=by omega
 have hz1:Z<=64:=by omega
 rw [<-hZ] at HPL ⊢
 clear hZ
 have HK:=AC K
 have HB:=AC (Ad.new w op a b im).drew
 have BX:=AC (Ad.new w op a b im).drew.c
 clear K
 go_enter Tryz.func258,Tryz.ntmps258
 go_wp2
 go_region_held (fun W=>W.cell? (pK w.heap.size 0)=some (.int .u8 op)/\W.cell? (pK w.heap.size 1)=some (.int .i64 (a:Int))/\W.cell? (pK w.heap.size 2)=some (.int .i64 (b:Int))/\W.cell? (pK w.heap.size 3)=some (.int .i16 im)) (exact AB BX) (first|(go_at_call 324;refine ((AB HK).ra _ (AB HB)).mono ?_;rintro e wn ⟨rfl,hb⟩;clear HB BX;have BX:=AC hb.c;have HB:=AC hb;clear hb)|(go_at_call 326;refine (AB HPL _ (AB HB)).mono ?_;rintro e wn ⟨rfl,hb⟩;clear HB BX;have BX:=AC hb.c;have HB:=AC hb;clear hb)|(go_at_call 321;refine ((AB HK).be _ _ (AB HB)).mono ?_;rintro e wn ⟨rfl,hb,hc⟩;clear BX;have BX:=AC hb;have HC:=AC hc;clear hb hc))
 go_wp2
 go_ret
 exact ⟨rfl,AB HC⟩
theorem YU {w:World} {pb co:Nat} {PC U V op:Int} {a b:Nat} {im:Int} (K:Parts w pb co PC U V op a b im) (hv:V=0):Calls Tryz.prog 253 #[pq pb co,.agg #[.int .u8 op,.int .i64 (a:Int),.int .i64 (b:Int),.int .i16 im]] w (EZ w (IntKind.u64.wrap (PC+4))):=by
 subst hv
 have HK:=AC K
 have HB:=AC (Ad.new w op a b im)
 have BX:=AC (Ad.new w op a b im).c
 clear K
 go_enter Tryz.func253,Tryz.ntmps253
 go_wp2_with (first|(go_at_call 323;refine ((AB HK).rb _ (AB HB)).mono ?_;rintro e wn ⟨rfl,hb⟩;clear HB BX;have BX:=AC hb.c;have HB:=AC hb;clear hb)|(go_at_call 325;refine ((AB HK).next _ (AB HB)).mono ?_;rintro e wn ⟨rfl,hb⟩;clear HB BX;have BX:=AC hb.c;have HB:=AC hb;clear hb))
 go_ret
 exact ⟨rfl,(AB HB).below⟩
theorem Kp {w w':World} {b:Nat} {t:TypeId} {vs:List Value} {o:Nat} {v:Value} (h:AG w b t vs) (e:w'.heap[b]? =(w.setCell (pK b o) v).heap[b]?):AG w' b t (vs.set o v):=Ab (h.set o v) e
section
variable {w : World} {pb : Nat} {p : AP} {wk : Int} {fds : List Value}
theorem D7 (h:AG w pb 195 (CT p wk fds)) (hc:Can p) (hok:As p.PS) (hs:(AH p.PS p.pc).2=0) (fn:Nat) (ht:CD.getD (AH p.PS p.pc).1.op.toNat .nilFunc= .func (.func fn) #[] #[]) (hent:∀args w,(callFunc fn args).run Tryz.prog w= .ok (.enter fn args) w) (n:Int) (q:AP) (hq:q.pc=p.pc)
  (hw:∀W,Below w.heap.size w W->AG W pb 195 (CT p wk fds)->Calls Tryz.prog fn #[pq pb 0,.agg #[.int .u8 (AH p.PS p.pc).1.op,.int .i64 ((AH p.PS p.pc).1.a.toNat:Int),.int .i64 ((AH p.PS p.pc).1.b.toNat:Int),.int .i16 (AH p.PS p.pc).1.im]] W fun e w'=>e= .returned (.int .u64 n)/\W.grownBy w' (some pb)/\AG w' pb 195 (CT q wk fds)):
  Calls Tryz.prog 154 #[pq pb 0] w fun e w'=>e= .returned (.tuple #[.bool ((AH p.PS p.pc).1.op==24),.int .i64 0])/\w.grownBy w' (some pb)/\AG w' pb 195 (CT {q with pc:=n} wk fds):=by
 have hbd:=Bp hc.ok.pages hs
 refine (VO pb 0 (AH p.PS p.pc).1.op (AH p.PS p.pc).1.a.toNat (AH p.PS p.pc).1.b.toNat (AH p.PS p.pc).1.im fn w (Nz h hc hok hs) ⟨by omega,by omega,ht⟩ hent h.lt n (fun W w'=>AG w' pb 195 (CT q wk fds)) (fun W hW=>(hw W hW (h.below hW h.lt)).mono ?_)).mono ?_
 ·rintro e w' ⟨h1,h2,h3⟩
  exact ⟨h1,h2,⟨_,h3.cell rfl⟩,h3.frozen _,h3⟩
 ·rintro e w' ⟨h1,W,W',hB,hg,hh,hS⟩
  refine ⟨h1,⟨hS.os.trans (hg.os.trans hB.os),hS.tape.trans (hg.tape.trans hB.tape),hS.output.trans (hg.output.trans hB.output),zh hB.size (zh hg.size hS.size),fun k hk hn=> ?_⟩,?_⟩
  ·have hn':k≠pb:=fun e=>hn (by rw [e])
   have hsz:=hB.size
   rw [hS.block k hk hn',hg.block k (by omega) hn,hB.block k hk]
  ·have:=Kp hh hS.here
   unfold CT at this ⊢
   rwa [RU] at this
theorem Cn {W:World} (h:AG W pb 195 (CT p wk fds)) (hc:Can p) {a:Nat} (ha:a<16) {v n:Int} {e:Ending} {w':World} (hp:e= .returned (.int .u64 n)/\D6 W w' pb (0+1+a) (.int .u64 v)):e= .returned (.int .u64 n)/\W.grownBy w' (some pb)/\AG w' pb 195 (CT {p with R:=p.R.set a v} wk fds):=by
 refine ⟨hp.1,hp.2.1,?_⟩
 have:=Kp h hp.2.2
 unfold CT at this ⊢
 rwa [show 0+1+a=1+a by omega,Ny _ _ _ _ _ _ _ _ _ (by rw [hc.api.regs];exact ha)] at this
theorem GA {W:World} (h:AG W pb 195 (CT p wk fds)) {n:Int} {e:Ending} {w':World} (hp:EZ W n e w'):e= .returned (.int .u64 n)/\W.grownBy w' (some pb)/\AG w' pb 195 (CT p wk fds):=
 ⟨hp.1,⟨hp.2.os,hp.2.tape,hp.2.output,hp.2.size,fun k hk _=>hp.2.block k hk⟩,h.below hp.2 h.lt⟩
theorem VT {PS:List Pg} (hok:As PS) (x v:Int):As (DV PS x v):=by
 have hsh:=J3 PS x v
 refine ⟨?_,fun q hq=> ?_⟩
 ·have:=hok.sorted
  have e:(DV PS x v).map (·.num)=PS.map (·.num):=by
   have:=congrArg (List.map (fun t:Int×Int×Nat=>t.1)) hsh
   simpa [E9,Function.comp_def] using this
  have h1:(PS.map (·.num)).Pairwise (· < ·):=List.pairwise_map.2 this
  rw [<-e] at h1
  exact List.pairwise_map.1 h1
 ·obtain ⟨k,hk⟩:=yo.1 hq
  obtain ⟨r,h1,h2,h3,h4⟩:=GO hsh.symm hk
  have:=hok.each r (zv h1)
  rw [h2,h3,h4] at this
  exact this
theorem JP {W:World} (h:AG W pb 195 (CT p wk fds)) (hR:p.R.length=16) (hok:As p.PS) {addr:Int} (h0:0<=addr) {n:Nat} (hm:Bs p.PS addr n 2=true) (L:List Int):∀j,j<=n->AG (CX W pb (0+17) addr L j) pb 195 (CT {p with PS:=Bu p.PS addr L j} wk fds)/\As (Bu p.PS addr L j)
 |0,_=>⟨h,hok⟩
 |j+1,hj=>by
  obtain ⟨h1,h2⟩:=JP h hR hok h0 hm L j (by omega)
  have hx:=aU h0 hm (show j<n by omega)
  have hw:IntKind.u64.wrap (addr+(j:Int))=addr+(j:Int):=by rw [ym];omega
  have hb:∀q∈Bu p.PS addr L j,q.bytes.length=256:=fun q hq=>(h2.each q hq).2.2.2.2
  obtain ⟨q0,hq0⟩:=hx.2
  obtain ⟨q,hq⟩:∃q,(Bu p.PS addr L j).find? (fun p=>p.num==(addr+(j:Int))/256)=some q:=by
   have:∀i,∃q,(Bu p.PS addr L i).find? (fun p=>p.num==(addr+(j:Int))/256)=some q:=fun i=>by
    induction i with
    |zero=>exact ⟨q0,hq0⟩
    |succ i ih=>
     obtain ⟨q,hq⟩:=ih
     show ∃q,(DV (Bu p.PS addr L i) _ _).find? _=some q
     rw [LI,hq]
     exact ⟨_,rfl⟩
   exact this j
  refine ⟨?_,VT h2 _ _⟩
  have h3:=h1.set (Eh (0+17) (IntKind.u64.wrap (addr+(j:Int)))) (.int .u8 (L.getD j 0))
  rw [hw] at h3
  have e:Eh (0+17) (addr+(j:Int))=17+Eh 0 (addr+(j:Int)):=by unfold Eh;omega
  unfold CT at h3
  rw [e,O4 _ hR _ _ _ _ _ _ _ (by rw [BD hb];unfold Eh;omega),VH hb (by omega) hx.1 hq] at h3
  show AG ((CX W pb (0+17) addr L j).setCell (pK pb (Eh (0+17) (IntKind.u64.wrap (addr+(j:Int))))) (.int .u8 (L.getD j 0))) _ _ _
  rw [hw,e]
  exact h3
end
theorem Bf {PS:List Pg} {PC:Int}: -32768<=(AH PS PC).1.im/\(AH PS PC).1.im<=32767:=by
 rcases GQ PS PC with ⟨e1,e2⟩|⟨e1,e2,e3,e4⟩|⟨e1,e2,e3,e4,e5⟩
 ·unfold AH;rw [if_neg e2];exact ⟨by decide,by decide⟩
 ·unfold AH;rw [if_pos ⟨e2,e3⟩,if_pos e4];exact ⟨by decide,by decide⟩
 ·rw [e5]
  show -32768<=IntKind.i16.wrap _/\IntKind.i16.wrap _<=32767
  generalize Ap PS (PC+2)+Ap PS (PC+3)*256=x
  rw [Wa]
  omega
theorem gT (im a b:Int):DS 7 im a b=some (if b=0 then 18446744073709551615 else IntKind.u64.wrap (a.tdiv b)):=by
 by_cases hb:b=0
 ·unfold DS;simp [hb]
 ·unfold DS;simp [hb]
theorem gH (im a b:Int):DS 8 im a b=some (if b=0 then a else a.tmod b):=by
 by_cases hb:b=0
 ·unfold DS;simp [hb]
 ·unfold DS;simp [hb]
theorem N4 (x:Int):wrap64 x=IntKind.i64.wrap x:=by
 unfold wrap64
 simp only [IntKind.wrap,IntKind.bits,IntKind.signed]
 simp
 split<;>omega
theorem fI (im pc a b:Int):Cf 18 im pc a b=IU pc im (a==b):=by
 unfold Cf IU
 by_cases hx:a=b<;>simp [hx]
theorem fJ (im pc a b:Int):Cf 19 im pc a b=IU pc im (a !=b):=by
 unfold Cf IU
 by_cases hx:a=b<;>simp [hx]
theorem fK (im pc a b:Int):Cf 20 im pc a b=IU pc im (decide (IntKind.i64.wrap a<IntKind.i64.wrap b)):=by
 unfold Cf IU
 rw [<-N4,<-N4]
 by_cases hx:wrap64 a<wrap64 b<;>simp [hx]
theorem fL (im pc a b:Int):Cf 21 im pc a b=IU pc im (decide (a<b)):=by
 unfold Cf IU
 by_cases hx:a<b<;>simp [hx]
def Df (w:World) (pb:Nat) (p:AP) (wk:Int) (fds:List Value) (e:Ending) (w':World):Prop:=
 (∃s,s≠0/\Au p=p.ended s/\e= .returned (.tuple #[.bool false,.int .i64 s])/\Below w.heap.size w w')\/((Au p).st=p.st/\e= .returned (.tuple #[.bool false,.int .i64 0])/\w.grownBy w' (some pb)/\AG w' pb 195 (CT (Au p) wk fds)/\As (Au p).PS)
section
variable {w : World} {pb : Nat} {p : AP} {wk : Int} {fds : List Value}
theorem CH (n:Int) (q:AP) (hst:Au p={q with pc:=n}) (h24:(AH p.PS p.pc).1.op≠24) (hq:q.st=p.st) (hok:As q.PS) {e:Ending} {w':World} (h:e= .returned (.tuple #[.bool ((AH p.PS p.pc).1.op==24),.int .i64 0])/\w.grownBy w' (some pb)/\AG w' pb 195 (CT {q with pc:=n} wk fds)):Df w pb p wk fds e w':=by
 refine .inr ⟨by rw [hst];exact hq,?_,h.2.1,by rw [hst];exact h.2.2,by rw [hst];exact hok⟩
 rw [h.1,show ((AH p.PS p.pc).1.op==24)=false by simpa using h24]
theorem DL (hs:(AH p.PS p.pc).2=0) {v:Int} (ha:DS (AH p.PS p.pc).1.op (AH p.PS p.pc).1.im (p.R.getD (AH p.PS p.pc).1.a.toNat 0) (p.R.getD (AH p.PS p.pc).1.b.toNat 0)=some v):Au p={p with R:=p.R.set (AH p.PS p.pc).1.a.toNat v,pc:=pc4 p}:=by
 unfold Au
 rw [if_neg (by omega),ha]
theorem ay {R:List Int} {a:Nat} (h:a<R.length):R.set a (R.getD a 0)=R:=by
 refine List.ext_getElem? fun i=> ?_
 rw [yy]
 split
 ·rename_i e;subst e
  rw [zl,zz h];rfl
 ·rfl
theorem Hc (hs:(AH p.PS p.pc).2=0) (h18:18<=(AH p.PS p.pc).1.op) (h22:(AH p.PS p.pc).1.op≠22):Au p={p with pc:=Cf (AH p.PS p.pc).1.op (AH p.PS p.pc).1.im p.pc (p.R.getD (AH p.PS p.pc).1.a.toNat 0) (p.R.getD (AH p.PS p.pc).1.b.toNat 0)}:=by
 unfold Au
 have ha:DS (AH p.PS p.pc).1.op (AH p.PS p.pc).1.im (p.R.getD (AH p.PS p.pc).1.a.toNat 0) (p.R.getD (AH p.PS p.pc).1.b.toNat 0)=none:=by
  unfold DS
  repeat (rw [if_neg (by omega)])
 rw [if_neg (by omega),ha]
 simp only
 rw [if_neg (by omega),if_neg h22]
theorem dY (h:AG w pb 195 (CT p wk fds)) (hc:Can p) (hok:As p.PS) (hs:(AH p.PS p.pc).2=0) (hop:(AH p.PS p.pc).1.op=1):Calls Tryz.prog 154 #[pq pb 0] w (Df w pb p wk fds):=by
 have hbd:=Bp hc.ok.pages hs
 have ha:(AH p.PS p.pc).1.a.toNat<16:=by omega
 have hb:(AH p.PS p.pc).1.b.toNat<16:=by omega
 refine (D7 h hc hok hs 246 (by rw [hop];rfl) (enters_of Tryz.func246 (by kernel_rfl) rfl) (pc4 p) {p with R:=p.R.set (AH p.PS p.pc).1.a.toNat (IntKind.u64.wrap (AH p.PS p.pc).1.im)} rfl (fun W hW hh=>(fF ((C9 hh hc hok).parts (AH p.PS p.pc).1.op ha hb Bf)).mono (fun e w' hp=>Cn hh hc ha hp))).mono (fun e w' hf=>CH (pc4 p) {p with R:=p.R.set (AH p.PS p.pc).1.a.toNat (IntKind.u64.wrap (AH p.PS p.pc).1.im)} (DL hs (by rw [hop];rfl)) (by omega) rfl hok hf)
theorem YV (h:AG w pb 195 (CT p wk fds)) (hc:Can p) (hok:As p.PS) (hs:(AH p.PS p.pc).2=0) (hop:(AH p.PS p.pc).1.op=2):Calls Tryz.prog 154 #[pq pb 0] w (Df w pb p wk fds):=by
 have hbd:=Bp hc.ok.pages hs
 have ha:(AH p.PS p.pc).1.a.toNat<16:=by omega
 have hb:(AH p.PS p.pc).1.b.toNat<16:=by omega
 refine (D7 h hc hok hs 247 (by rw [hop];rfl) (enters_of Tryz.func247 (by kernel_rfl) rfl) (pc4 p) {p with R:=p.R.set (AH p.PS p.pc).1.a.toNat ((p.R.getD (AH p.PS p.pc).1.b.toNat 0))} rfl (fun W hW hh=>(al ((C9 hh hc hok).parts (AH p.PS p.pc).1.op ha hb Bf)).mono (fun e w' hp=>Cn hh hc ha hp))).mono (fun e w' hf=>CH (pc4 p) {p with R:=p.R.set (AH p.PS p.pc).1.a.toNat ((p.R.getD (AH p.PS p.pc).1.b.toNat 0))} (DL hs (by rw [hop];rfl)) (by omega) rfl hok hf)
theorem YW (h:AG w pb 195 (CT p wk fds)) (hc:Can p) (hok:As p.PS) (hs:(AH p.PS p.pc).2=0) (hop:(AH p.PS p.pc).1.op=3):Calls Tryz.prog 154 #[pq pb 0] w (Df w pb p wk fds):=by
 have hbd:=Bp hc.ok.pages hs
 have ha:(AH p.PS p.pc).1.a.toNat<16:=by omega
 have hb:(AH p.PS p.pc).1.b.toNat<16:=by omega
 refine (D7 h hc hok hs 248 (by rw [hop];rfl) (enters_of Tryz.func248 (by kernel_rfl) rfl) (pc4 p) {p with R:=p.R.set (AH p.PS p.pc).1.a.toNat (IntKind.u64.wrap ((p.R.getD (AH p.PS p.pc).1.b.toNat 0)+IntKind.u64.wrap (AH p.PS p.pc).1.im))} rfl (fun W hW hh=>(an ((C9 hh hc hok).parts (AH p.PS p.pc).1.op ha hb Bf)).mono (fun e w' hp=>Cn hh hc ha hp))).mono (fun e w' hf=>CH (pc4 p) {p with R:=p.R.set (AH p.PS p.pc).1.a.toNat (IntKind.u64.wrap ((p.R.getD (AH p.PS p.pc).1.b.toNat 0)+IntKind.u64.wrap (AH p.PS p.pc).1.im))} (DL hs (by rw [hop];rfl)) (by omega) rfl hok hf)
theorem az (h:AG w pb 195 (CT p wk fds)) (hc:Can p) (hok:As p.PS) (hs:(AH p.PS p.pc).2=0) (hop:(AH p.PS p.pc).1.op=4):Calls Tryz.prog 154 #[pq pb 0] w (Df w pb p wk fds):=by
 have hbd:=Bp hc.ok.pages hs
 have ha:(AH p.PS p.pc).1.a.toNat<16:=by omega
 have hb:(AH p.PS p.pc).1.b.toNat<16:=by omega
 refine (D7 h hc hok hs 249 (by rw [hop];rfl) (enters_of Tryz.func249 (by kernel_rfl) rfl) (pc4 p) {p with R:=p.R.set (AH p.PS p.pc).1.a.toNat (IntKind.u64.wrap ((p.R.getD (AH p.PS p.pc).1.a.toNat 0)+(p.R.getD (AH p.PS p.pc).1.b.toNat 0)))} rfl (fun W hW hh=>(dH ((C9 hh hc hok).parts (AH p.PS p.pc).1.op ha hb Bf)).mono (fun e w' hp=>Cn hh hc ha hp))).mono (fun e w' hf=>CH (pc4 p) {p with R:=p.R.set (AH p.PS p.pc).1.a.toNat (IntKind.u64.wrap ((p.R.getD (AH p.PS p.pc).1.a.toNat 0)+(p.R.getD (AH p.PS p.pc).1.b.toNat 0)))} (DL hs (by rw [hop];rfl)) (by omega) rfl hok hf)
theorem bB (h:AG w pb 195 (CT p wk fds)) (hc:Can p) (hok:As p.PS) (hs:(AH p.PS p.pc).2=0) (hop:(AH p.PS p.pc).1.op=5):Calls Tryz.prog 154 #[pq pb 0] w (Df w pb p wk fds):=by
 have hbd:=Bp hc.ok.pages hs
 have ha:(AH p.PS p.pc).1.a.toNat<16:=by omega
 have hb:(AH p.PS p.pc).1.b.toNat<16:=by omega
 refine (D7 h hc hok hs 250 (by rw [hop];rfl) (enters_of Tryz.func250 (by kernel_rfl) rfl) (pc4 p) {p with R:=p.R.set (AH p.PS p.pc).1.a.toNat (IntKind.u64.wrap ((p.R.getD (AH p.PS p.pc).1.a.toNat 0)-(p.R.getD (AH p.PS p.pc).1.b.toNat 0)))} rfl (fun W hW hh=>(dI ((C9 hh hc hok).parts (AH p.PS p.pc).1.op ha hb Bf)).mono (fun e w' hp=>Cn hh hc ha hp))).mono (fun e w' hf=>CH (pc4 p) {p with R:=p.R.set (AH p.PS p.pc).1.a.toNat (IntKind.u64.wrap ((p.R.getD (AH p.PS p.pc).1.a.toNat 0)-(p.R.getD (AH p.PS p.pc).1.b.toNat 0)))} (DL hs (by rw [hop];rfl)) (by omega) rfl hok hf)
theorem bC (h:AG w pb 195 (CT p wk fds)) (hc:Can p) (hok:As p.PS) (hs:(AH p.PS p.pc).2=0) (hop:(AH p.PS p.pc).1.op=6):Calls Tryz.prog 154 #[pq pb 0] w (Df w pb p wk fds):=by
 have hbd:=Bp hc.ok.pages hs
 have ha:(AH p.PS p.pc).1.a.toNat<16:=by omega
 have hb:(AH p.PS p.pc).1.b.toNat<16:=by omega
 refine (D7 h hc hok hs 251 (by rw [hop];rfl) (enters_of Tryz.func251 (by kernel_rfl) rfl) (pc4 p) {p with R:=p.R.set (AH p.PS p.pc).1.a.toNat (IntKind.u64.wrap ((p.R.getD (AH p.PS p.pc).1.a.toNat 0)*(p.R.getD (AH p.PS p.pc).1.b.toNat 0)))} rfl (fun W hW hh=>(dJ ((C9 hh hc hok).parts (AH p.PS p.pc).1.op ha hb Bf)).mono (fun e w' hp=>Cn hh hc ha hp))).mono (fun e w' hf=>CH (pc4 p) {p with R:=p.R.set (AH p.PS p.pc).1.a.toNat (IntKind.u64.wrap ((p.R.getD (AH p.PS p.pc).1.a.toNat 0)*(p.R.getD (AH p.PS p.pc).1.b.toNat 0)))} (DL hs (by rw [hop];rfl)) (by omega) rfl hok hf)
theorem bD (h:AG w pb 195 (CT p wk fds)) (hc:Can p) (hok:As p.PS) (hs:(AH p.PS p.pc).2=0) (hop:(AH p.PS p.pc).1.op=9):Calls Tryz.prog 154 #[pq pb 0] w (Df w pb p wk fds):=by
 have hbd:=Bp hc.ok.pages hs
 have ha:(AH p.PS p.pc).1.a.toNat<16:=by omega
 have hb:(AH p.PS p.pc).1.b.toNat<16:=by omega
 refine (D7 h hc hok hs 254 (by rw [hop];rfl) (enters_of Tryz.func254 (by kernel_rfl) rfl) (pc4 p) {p with R:=p.R.set (AH p.PS p.pc).1.a.toNat (bits .and .u64 (p.R.getD (AH p.PS p.pc).1.a.toNat 0) (p.R.getD (AH p.PS p.pc).1.b.toNat 0))} rfl (fun W hW hh=>(dK ((C9 hh hc hok).parts (AH p.PS p.pc).1.op ha hb Bf)).mono (fun e w' hp=>Cn hh hc ha hp))).mono (fun e w' hf=>CH (pc4 p) {p with R:=p.R.set (AH p.PS p.pc).1.a.toNat (bits .and .u64 (p.R.getD (AH p.PS p.pc).1.a.toNat 0) (p.R.getD (AH p.PS p.pc).1.b.toNat 0))} (DL hs (by rw [hop];rfl)) (by omega) rfl hok hf)
theorem dZ (h:AG w pb 195 (CT p wk fds)) (hc:Can p) (hok:As p.PS) (hs:(AH p.PS p.pc).2=0) (hop:(AH p.PS p.pc).1.op=10):Calls Tryz.prog 154 #[pq pb 0] w (Df w pb p wk fds):=by
 have hbd:=Bp hc.ok.pages hs
 have ha:(AH p.PS p.pc).1.a.toNat<16:=by omega
 have hb:(AH p.PS p.pc).1.b.toNat<16:=by omega
 refine (D7 h hc hok hs 255 (by rw [hop];rfl) (enters_of Tryz.func255 (by kernel_rfl) rfl) (pc4 p) {p with R:=p.R.set (AH p.PS p.pc).1.a.toNat (bits .or .u64 (p.R.getD (AH p.PS p.pc).1.a.toNat 0) (p.R.getD (AH p.PS p.pc).1.b.toNat 0))} rfl (fun W hW hh=>(fG ((C9 hh hc hok).parts (AH p.PS p.pc).1.op ha hb Bf)).mono (fun e w' hp=>Cn hh hc ha hp))).mono (fun e w' hf=>CH (pc4 p) {p with R:=p.R.set (AH p.PS p.pc).1.a.toNat (bits .or .u64 (p.R.getD (AH p.PS p.pc).1.a.toNat 0) (p.R.getD (AH p.PS p.pc).1.b.toNat 0))} (DL hs (by rw [hop];rfl)) (by omega) rfl hok hf)
theorem bE (h:AG w pb 195 (CT p wk fds)) (hc:Can p) (hok:As p.PS) (hs:(AH p.PS p.pc).2=0) (hop:(AH p.PS p.pc).1.op=11):Calls Tryz.prog 154 #[pq pb 0] w (Df w pb p wk fds):=by
 have hbd:=Bp hc.ok.pages hs
 have ha:(AH p.PS p.pc).1.a.toNat<16:=by omega
 have hb:(AH p.PS p.pc).1.b.toNat<16:=by omega
 refine (D7 h hc hok hs 256 (by rw [hop];rfl) (enters_of Tryz.func256 (by kernel_rfl) rfl) (pc4 p) {p with R:=p.R.set (AH p.PS p.pc).1.a.toNat (bits .xor .u64 (p.R.getD (AH p.PS p.pc).1.a.toNat 0) (p.R.getD (AH p.PS p.pc).1.b.toNat 0))} rfl (fun W hW hh=>(dL ((C9 hh hc hok).parts (AH p.PS p.pc).1.op ha hb Bf)).mono (fun e w' hp=>Cn hh hc ha hp))).mono (fun e w' hf=>CH (pc4 p) {p with R:=p.R.set (AH p.PS p.pc).1.a.toNat (bits .xor .u64 (p.R.getD (AH p.PS p.pc).1.a.toNat 0) (p.R.getD (AH p.PS p.pc).1.b.toNat 0))} (DL hs (by rw [hop];rfl)) (by omega) rfl hok hf)
theorem bG (h:AG w pb 195 (CT p wk fds)) (hc:Can p) (hok:As p.PS) (hs:(AH p.PS p.pc).2=0) (hop:(AH p.PS p.pc).1.op=12):Calls Tryz.prog 154 #[pq pb 0] w (Df w pb p wk fds):=by
 have hbd:=Bp hc.ok.pages hs
 have ha:(AH p.PS p.pc).1.a.toNat<16:=by omega
 have hb:(AH p.PS p.pc).1.b.toNat<16:=by omega
 refine (D7 h hc hok hs 257 (by rw [hop];rfl) (enters_of Tryz.func257 (by kernel_rfl) rfl) (pc4 p) {p with R:=p.R.set (AH p.PS p.pc).1.a.toNat (IntKind.u64.wrap ((p.R.getD (AH p.PS p.pc).1.a.toNat 0)*2^((p.R.getD (AH p.PS p.pc).1.b.toNat 0)%64).toNat))} rfl (fun W hW hh=>(dM ((C9 hh hc hok).parts2 (AH p.PS p.pc).1.op ha hb Bf (hc.ok.regs _).1)).mono (fun e w' hp=>Cn hh hc ha hp))).mono (fun e w' hf=>CH (pc4 p) {p with R:=p.R.set (AH p.PS p.pc).1.a.toNat (IntKind.u64.wrap ((p.R.getD (AH p.PS p.pc).1.a.toNat 0)*2^((p.R.getD (AH p.PS p.pc).1.b.toNat 0)%64).toNat))} (DL hs (by rw [hop];rfl)) (by omega) rfl hok hf)
theorem bH (h:AG w pb 195 (CT p wk fds)) (hc:Can p) (hok:As p.PS) (hs:(AH p.PS p.pc).2=0) (hop:(AH p.PS p.pc).1.op=13):Calls Tryz.prog 154 #[pq pb 0] w (Df w pb p wk fds):=by
 have hbd:=Bp hc.ok.pages hs
 have ha:(AH p.PS p.pc).1.a.toNat<16:=by omega
 have hb:(AH p.PS p.pc).1.b.toNat<16:=by omega
 refine (D7 h hc hok hs 258 (by rw [hop];rfl) (enters_of Tryz.func258 (by kernel_rfl) rfl) (pc4 p) {p with R:=p.R.set (AH p.PS p.pc).1.a.toNat ((p.R.getD (AH p.PS p.pc).1.a.toNat 0)/2^((p.R.getD (AH p.PS p.pc).1.b.toNat 0)%64).toNat)} rfl (fun W hW hh=>(dN ((C9 hh hc hok).parts2 (AH p.PS p.pc).1.op ha hb Bf (hc.ok.regs _).1)).mono (fun e w' hp=>Cn hh hc ha hp))).mono (fun e w' hf=>CH (pc4 p) {p with R:=p.R.set (AH p.PS p.pc).1.a.toNat ((p.R.getD (AH p.PS p.pc).1.a.toNat 0)/2^((p.R.getD (AH p.PS p.pc).1.b.toNat 0)%64).toNat)} (DL hs (by rw [hop];rfl)) (by omega) rfl hok hf)
theorem YX (h:AG w pb 195 (CT p wk fds)) (hc:Can p) (hok:As p.PS) (hs:(AH p.PS p.pc).2=0) (hop:(AH p.PS p.pc).1.op=7):Calls Tryz.prog 154 #[pq pb 0] w (Df w pb p wk fds):=by
 have hbd:=Bp hc.ok.pages hs
 have ha:(AH p.PS p.pc).1.a.toNat<16:=by omega
 have hb:(AH p.PS p.pc).1.b.toNat<16:=by omega
 refine (D7 h hc hok hs 252 (by rw [hop];rfl) (enters_of Tryz.func252 (by kernel_rfl) rfl) (pc4 p) {p with R:=p.R.set (AH p.PS p.pc).1.a.toNat (if (p.R.getD (AH p.PS p.pc).1.b.toNat 0)=0 then 18446744073709551615 else IntKind.u64.wrap ((p.R.getD (AH p.PS p.pc).1.a.toNat 0).tdiv (p.R.getD (AH p.PS p.pc).1.b.toNat 0)))} rfl (fun W hW hh=>(ao ((C9 hh hc hok).parts (AH p.PS p.pc).1.op ha hb Bf)).mono (fun e w' hp=>Cn hh hc ha hp))).mono (fun e w' hf=>CH (pc4 p) {p with R:=p.R.set (AH p.PS p.pc).1.a.toNat (if (p.R.getD (AH p.PS p.pc).1.b.toNat 0)=0 then 18446744073709551615 else IntKind.u64.wrap ((p.R.getD (AH p.PS p.pc).1.a.toNat 0).tdiv (p.R.getD (AH p.PS p.pc).1.b.toNat 0)))} (DL hs (by rw [hop];exact gT _ _ _)) (by omega) rfl hok hf)
theorem YY (h:AG w pb 195 (CT p wk fds)) (hc:Can p) (hok:As p.PS) (hs:(AH p.PS p.pc).2=0) (hop:(AH p.PS p.pc).1.op=8):Calls Tryz.prog 154 #[pq pb 0] w (Df w pb p wk fds):=by
 have hbd:=Bp hc.ok.pages hs
 have ha:(AH p.PS p.pc).1.a.toNat<16:=by omega
 have hb:(AH p.PS p.pc).1.b.toNat<16:=by omega
 by_cases hv:(p.R.getD (AH p.PS p.pc).1.b.toNat 0)=0
 ·have hst:Au p={p with pc:=pc4 p}:=by
   rw [DL hs (v:=(p.R.getD (AH p.PS p.pc).1.a.toNat 0)) (by rw [hop,gH,if_pos hv]),ay (by rw [hc.api.regs];exact ha)]
  exact (D7 h hc hok hs 253 (by rw [hop];rfl) (enters_of Tryz.func253 (by kernel_rfl) rfl) (pc4 p) p rfl (fun W hW hh=>(YU ((C9 hh hc hok).parts (AH p.PS p.pc).1.op ha hb Bf) hv).mono (fun e w' hp=>GA hh hp))).mono (fun e w' hf=>CH (pc4 p) p hst (by omega) rfl hok hf)
 ·exact (D7 h hc hok hs 253 (by rw [hop];rfl) (enters_of Tryz.func253 (by kernel_rfl) rfl) (pc4 p) {p with R:=p.R.set (AH p.PS p.pc).1.a.toNat ((p.R.getD (AH p.PS p.pc).1.a.toNat 0).tmod (p.R.getD (AH p.PS p.pc).1.b.toNat 0))} rfl (fun W hW hh=>(ap ((C9 hh hc hok).parts (AH p.PS p.pc).1.op ha hb Bf) hv).mono (fun e w' hp=>Cn hh hc ha hp))).mono (fun e w' hf=>CH (pc4 p) {p with R:=p.R.set (AH p.PS p.pc).1.a.toNat ((p.R.getD (AH p.PS p.pc).1.a.toNat 0).tmod (p.R.getD (AH p.PS p.pc).1.b.toNat 0))} (DL hs (by rw [hop,gH,if_neg hv])) (by omega) rfl hok hf)
theorem bI (h:AG w pb 195 (CT p wk fds)) (hc:Can p) (hok:As p.PS) (hs:(AH p.PS p.pc).2=0) (hop:(AH p.PS p.pc).1.op=18):Calls Tryz.prog 154 #[pq pb 0] w (Df w pb p wk fds):=by
 have hbd:=Bp hc.ok.pages hs
 have ha:(AH p.PS p.pc).1.a.toNat<16:=by omega
 have hb:(AH p.PS p.pc).1.b.toNat<16:=by omega
 have hj:Cf (AH p.PS p.pc).1.op (AH p.PS p.pc).1.im p.pc (p.R.getD (AH p.PS p.pc).1.a.toNat 0) (p.R.getD (AH p.PS p.pc).1.b.toNat 0)=IU p.pc (AH p.PS p.pc).1.im ((p.R.getD (AH p.PS p.pc).1.a.toNat 0)==(p.R.getD (AH p.PS p.pc).1.b.toNat 0)):=by
  rw [hop]
  exact fI _ _ _ _
 exact (D7 h hc hok hs 263 (by rw [hop];rfl) (enters_of Tryz.func263 (by kernel_rfl) rfl) _ p rfl (fun W hW hh=>(dO ((C9 hh hc hok).parts2 (AH p.PS p.pc).1.op ha hb Bf (hc.ok.regs _).1)).mono (fun e w' hp=>GA hh hp))).mono (fun e w' hf=>CH _ p ((Hc hs (by omega) (by omega)).trans (by rw [hj])) (by omega) rfl hok hf)
theorem bJ (h:AG w pb 195 (CT p wk fds)) (hc:Can p) (hok:As p.PS) (hs:(AH p.PS p.pc).2=0) (hop:(AH p.PS p.pc).1.op=19):Calls Tryz.prog 154 #[pq pb 0] w (Df w pb p wk fds):=by
 have hbd:=Bp hc.ok.pages hs
 have ha:(AH p.PS p.pc).1.a.toNat<16:=by omega
 have hb:(AH p.PS p.pc).1.b.toNat<16:=by omega
 have hj:Cf (AH p.PS p.pc).1.op (AH p.PS p.pc).1.im p.pc (p.R.getD (AH p.PS p.pc).1.a.toNat 0) (p.R.getD (AH p.PS p.pc).1.b.toNat 0)=IU p.pc (AH p.PS p.pc).1.im ((p.R.getD (AH p.PS p.pc).1.a.toNat 0) !=(p.R.getD (AH p.PS p.pc).1.b.toNat 0)):=by
  rw [hop]
  exact fJ _ _ _ _
 exact (D7 h hc hok hs 264 (by rw [hop];rfl) (enters_of Tryz.func264 (by kernel_rfl) rfl) _ p rfl (fun W hW hh=>(dP ((C9 hh hc hok).parts2 (AH p.PS p.pc).1.op ha hb Bf (hc.ok.regs _).1)).mono (fun e w' hp=>GA hh hp))).mono (fun e w' hf=>CH _ p ((Hc hs (by omega) (by omega)).trans (by rw [hj])) (by omega) rfl hok hf)
theorem bL (h:AG w pb 195 (CT p wk fds)) (hc:Can p) (hok:As p.PS) (hs:(AH p.PS p.pc).2=0) (hop:(AH p.PS p.pc).1.op=20):Calls Tryz.prog 154 #[pq pb 0] w (Df w pb p wk fds):=by
 have hbd:=Bp hc.ok.pages hs
 have ha:(AH p.PS p.pc).1.a.toNat<16:=by omega
 have hb:(AH p.PS p.pc).1.b.toNat<16:=by omega
 have hj:Cf (AH p.PS p.pc).1.op (AH p.PS p.pc).1.im p.pc (p.R.getD (AH p.PS p.pc).1.a.toNat 0) (p.R.getD (AH p.PS p.pc).1.b.toNat 0)=IU p.pc (AH p.PS p.pc).1.im (decide (IntKind.i64.wrap (p.R.getD (AH p.PS p.pc).1.a.toNat 0)<IntKind.i64.wrap (p.R.getD (AH p.PS p.pc).1.b.toNat 0))):=by
  rw [hop]
  exact fK _ _ _ _
 exact (D7 h hc hok hs 265 (by rw [hop];rfl) (enters_of Tryz.func265 (by kernel_rfl) rfl) _ p rfl (fun W hW hh=>(dQ ((C9 hh hc hok).parts2 (AH p.PS p.pc).1.op ha hb Bf (hc.ok.regs _).1)).mono (fun e w' hp=>GA hh hp))).mono (fun e w' hf=>CH _ p ((Hc hs (by omega) (by omega)).trans (by rw [hj])) (by omega) rfl hok hf)
theorem YZ (h:AG w pb 195 (CT p wk fds)) (hc:Can p) (hok:As p.PS) (hs:(AH p.PS p.pc).2=0) (hop:(AH p.PS p.pc).1.op=21):Calls Tryz.prog 154 #[pq pb 0] w (Df w pb p wk fds):=by
 have hbd:=Bp hc.ok.pages hs
 have ha:(AH p.PS p.pc).1.a.toNat<16:=by omega
 have hb:(AH p.PS p.pc).1.b.toNat<16:=by omega
 have hj:Cf (AH p.PS p.pc).1.op (AH p.PS p.pc).1.im p.pc (p.R.getD (AH p.PS p.pc).1.a.toNat 0) (p.R.getD (AH p.PS p.pc).1.b.toNat 0)=IU p.pc (AH p.PS p.pc).1.im (decide ((p.R.getD (AH p.PS p.pc).1.a.toNat 0)<(p.R.getD (AH p.PS p.pc).1.b.toNat 0))):=by
  rw [hop]
  exact fL _ _ _ _
 exact (D7 h hc hok hs 266 (by rw [hop];rfl) (enters_of Tryz.func266 (by kernel_rfl) rfl) _ p rfl (fun W hW hh=>(aq ((C9 hh hc hok).parts2 (AH p.PS p.pc).1.op ha hb Bf (hc.ok.regs _).1)).mono (fun e w' hp=>GA hh hp))).mono (fun e w' hf=>CH _ p ((Hc hs (by omega) (by omega)).trans (by rw [hj])) (by omega) rfl hok hf)
theorem dc (h:AG w pb 195 (CT p wk fds)) (hc:Can p) (hok:As p.PS) (hs:(AH p.PS p.pc).2=0) (hop:(AH p.PS p.pc).1.op=23):Calls Tryz.prog 154 #[pq pb 0] w (Df w pb p wk fds):=by
 have hbd:=Bp hc.ok.pages hs
 have ha:(AH p.PS p.pc).1.a.toNat<16:=by omega
 have hb:(AH p.PS p.pc).1.b.toNat<16:=by omega
 have hj:Cf (AH p.PS p.pc).1.op (AH p.PS p.pc).1.im p.pc (p.R.getD (AH p.PS p.pc).1.a.toNat 0) (p.R.getD (AH p.PS p.pc).1.b.toNat 0)=(p.R.getD (AH p.PS p.pc).1.a.toNat 0):=by rw [hop];rfl
 exact (D7 h hc hok hs 268 (by rw [hop];rfl) (enters_of Tryz.func268 (by kernel_rfl) rfl) _ p rfl (fun W hW hh=>(fH ((C9 hh hc hok).parts (AH p.PS p.pc).1.op ha hb Bf)).mono (fun e w' hp=>GA hh hp))).mono (fun e w' hf=>CH _ p ((Hc hs (by omega) (by omega)).trans (by rw [hj])) (by omega) rfl hok hf)
theorem bN (h:AG w pb 195 (CT p wk fds)) (hc:Can p) (hok:As p.PS) (hs:(AH p.PS p.pc).2=0) (hop:(AH p.PS p.pc).1.op=22):Calls Tryz.prog 154 #[pq pb 0] w (Df w pb p wk fds):=by
 have hbd:=Bp hc.ok.pages hs
 have ha:(AH p.PS p.pc).1.a.toNat<16:=by omega
 have hst:Au p={p with R:=p.R.set (AH p.PS p.pc).1.a.toNat (pc4 p),pc:=IntKind.u64.wrap (p.pc+IntKind.u64.wrap (AH p.PS p.pc).1.im)}:=by
  unfold Au
  have hal:DS (AH p.PS p.pc).1.op (AH p.PS p.pc).1.im (p.R.getD (AH p.PS p.pc).1.a.toNat 0) (p.R.getD (AH p.PS p.pc).1.b.toNat 0)=none:=by rw [hop];rfl
  rw [if_neg (by omega),hal]
  simp only
  rw [if_neg (by omega),if_pos hop,hop]
  unfold Cf
  rw [if_neg (by decide),if_pos (by simp)]
 exact (D7 h hc hok hs 267 (by rw [hop];rfl) (enters_of Tryz.func267 (by kernel_rfl) rfl) _ {p with R:=p.R.set (AH p.PS p.pc).1.a.toNat (pc4 p)} rfl (fun W hW hh=>(dR (C9 hh hc hok) (AH p.PS p.pc).1.op ha Bf).mono (fun e w' hp=>Cn hh hc ha hp))).mono (fun e w' hf=>CH _ {p with R:=p.R.set (AH p.PS p.pc).1.a.toNat (pc4 p)} hst (by omega) rfl hok hf)
end
section
variable {w : World} {pb : Nat} {p : AP} {wk : Int} {fds : List Value}
theorem Kq (hs:(AH p.PS p.pc).2=0) (h14:14<=(AH p.PS p.pc).1.op) (h17:(AH p.PS p.pc).1.op<=17):Au p=match FA p (AH p.PS p.pc).1.op (AH p.PS p.pc).1.im (AH p.PS p.pc).1.a.toNat (AH p.PS p.pc).1.b.toNat with|none=>p.ended 131|some q=>{q with pc:=pc4 p}:=by
 unfold Au
 have ha:DS (AH p.PS p.pc).1.op (AH p.PS p.pc).1.im (p.R.getD (AH p.PS p.pc).1.a.toNat 0) (p.R.getD (AH p.PS p.pc).1.b.toNat 0)=none:=by
  unfold DS
  repeat (rw [if_neg (by omega)])
 rw [if_neg (by omega),ha]
 simp only
 rw [if_pos ⟨h14,h17⟩]
 rfl
theorem Ma (h:AG w pb 195 (CT p wk fds)) (hc:Can p) (hok:As p.PS) (hs:(AH p.PS p.pc).2=0) (fn:Nat) (ht:CD.getD (AH p.PS p.pc).1.op.toNat .nilFunc= .func (.func fn) #[] #[]) (hent:∀args w,(callFunc fn args).run Tryz.prog w= .ok (.enter fn args) w) (hst:Au p=p.ended 131) (hw:∀W,Below w.heap.size w W->AG W pb 195 (CT p wk fds)->Calls Tryz.prog fn #[pq pb 0,.agg #[.int .u8 (AH p.PS p.pc).1.op,.int .i64 ((AH p.PS p.pc).1.a.toNat:Int),.int .i64 ((AH p.PS p.pc).1.b.toNat:Int),.int .i16 (AH p.PS p.pc).1.im]] W fun e w'=>e= .panicked (DB 131)/\Below W.heap.size W w'):Calls Tryz.prog 154 #[pq pb 0] w (Df w pb p wk fds):=by
 have hbd:=Bp hc.ok.pages hs
 refine (Tb pb 0 (AH p.PS p.pc).1.op (AH p.PS p.pc).1.a.toNat (AH p.PS p.pc).1.b.toNat (AH p.PS p.pc).1.im fn w (Nz h hc hok hs) ⟨by omega,by omega,ht⟩ hent 131 (fun W hW=>hw W hW (h.below hW h.lt))).mono ?_
 rintro e w' ⟨h1,h2⟩
 exact .inl ⟨131,by decide,hst,h1,h2⟩
theorem N5 {W:World} (h:AG W pb 195 (CT p wk fds)) (hc:Can p) (hok:As p.PS) {PC x y:Int} {n:Nat} (h0:0<=x) (hm:Bs p.PS x n 2=true) {e:Ending} {w':World} (hp:VS W pb 0 PC x n y e w'):e= .returned (.int .u64 (IntKind.u64.wrap (PC+4)))/\W.grownBy w' (some pb)/\AG w' pb 195 (CT {p with PS:=Bu p.PS x ((A8 y).take n) n} wk fds):=by
 obtain ⟨h1,W2,hb,hsb⟩:=hp
 have hg:=Gh W2 pb (0+17) x ((A8 y).take n) n
 have hr:=(JP (h.below hb h.lt) hc.api.regs hok h0 hm ((A8 y).take n) n (zx _)).1
 have hsz:=hb.size
 refine ⟨h1,⟨hsb.2.1.trans (hg.os.trans hb.os),hsb.2.2.1.trans (hg.tape.trans hb.tape),hsb.2.2.2.trans (hg.output.trans hb.output),?_,fun k hk hn=> ?_⟩,Ab hr (by rw [hsb.1])⟩
 ·rw [hsb.1];exact zh hb.size hg.size
 ·rw [hsb.1,hg.block k (by omega) hn,hb.block k hk]
theorem dd (h:AG w pb 195 (CT p wk fds)) (hc:Can p) (hok:As p.PS) (hs:(AH p.PS p.pc).2=0) (hop:(AH p.PS p.pc).1.op=14):Calls Tryz.prog 154 #[pq pb 0] w (Df w pb p wk fds):=by
 have hbd:=Bp hc.ok.pages hs
 have ha:(AH p.PS p.pc).1.a.toNat<16:=by omega
 have hb:(AH p.PS p.pc).1.b.toNat<16:=by omega
 have h0:0<=BR p (AH p.PS p.pc).1.im (AH p.PS p.pc).1.b.toNat:=(Bl _).1
 have h1:=(Bl ((p.R.getD (AH p.PS p.pc).1.b.toNat 0)+IntKind.u64.wrap (AH p.PS p.pc).1.im)).2
 have hmy:Ae (Cx p.PS) 4 (BR p (AH p.PS p.pc).1.im (AH p.PS p.pc).1.b.toNat) 8=Bs p.PS (BR p (AH p.PS p.pc).1.im (AH p.PS p.pc).1.b.toNat) 8 4:=Fk (Hb hok) (by decide) h0 h1 (by omega) (by omega)
 have hst:=Kq hs (by omega) (by omega)
 unfold FA at hst
 rw [hop] at hst
 rw [show C0 14=8 from rfl,show F6 14=4 from rfl] at hst
 cases hm:Bs p.PS (BR p (AH p.PS p.pc).1.im (AH p.PS p.pc).1.b.toNat) 8 4 with
 |false=>
  rw [hm] at hmy
  rw [if_neg (by rw [show (((8:Nat):Int))=8 from rfl,hm];decide)] at hst
  exact Ma h hc hok hs 259 (by rw [hop];rfl) (enters_of Tryz.func259 (by kernel_rfl) rfl) hst (fun W hW hh=>dV ((C9 hh hc hok).parts3 (Fc hh hc hok) (AH p.PS p.pc).1.op ha hb Bf (hc.ok.regs _).1) hmy)
 |true=>
  rw [hm] at hmy
  rw [if_pos (by rw [show (((8:Nat):Int))=8 from rfl,hm])] at hst
  rw [if_pos rfl] at hst
  have hby:=Nu (n:=8) h0 hm
  refine (D7 h hc hok hs 259 (by rw [hop];rfl) (enters_of Tryz.func259 (by kernel_rfl) rfl) (pc4 p) {p with R:=p.R.set (AH p.PS p.pc).1.a.toNat (AW (Bd p.PS (BR p (AH p.PS p.pc).1.im (AH p.PS p.pc).1.b.toNat) 8) 0 8)} rfl (fun W hW hh=>(dS ((C9 hh hc hok).parts3 (Fc hh hc hok) (AH p.PS p.pc).1.op ha hb Bf (hc.ok.regs _).1) hmy).mono (fun e w' hp=>Cn hh hc ha ?_))).mono (fun e w' hf=>CH (pc4 p) _ hst (by omega) rfl hok hf)
  rw [<-hby]
  exact hp
theorem bQ (h:AG w pb 195 (CT p wk fds)) (hc:Can p) (hok:As p.PS) (hs:(AH p.PS p.pc).2=0) (hop:(AH p.PS p.pc).1.op=16):Calls Tryz.prog 154 #[pq pb 0] w (Df w pb p wk fds):=by
 have hbd:=Bp hc.ok.pages hs
 have ha:(AH p.PS p.pc).1.a.toNat<16:=by omega
 have hb:(AH p.PS p.pc).1.b.toNat<16:=by omega
 have h0:0<=BR p (AH p.PS p.pc).1.im (AH p.PS p.pc).1.b.toNat:=(Bl _).1
 have h1:=(Bl ((p.R.getD (AH p.PS p.pc).1.b.toNat 0)+IntKind.u64.wrap (AH p.PS p.pc).1.im)).2
 have hmy:Ae (Cx p.PS) 4 (BR p (AH p.PS p.pc).1.im (AH p.PS p.pc).1.b.toNat) 1=Bs p.PS (BR p (AH p.PS p.pc).1.im (AH p.PS p.pc).1.b.toNat) 1 4:=Fk (Hb hok) (by decide) h0 h1 (by omega) (by omega)
 have hst:=Kq hs (by omega) (by omega)
 unfold FA at hst
 rw [hop] at hst
 rw [show C0 16=1 from rfl,show F6 16=4 from rfl] at hst
 cases hm:Bs p.PS (BR p (AH p.PS p.pc).1.im (AH p.PS p.pc).1.b.toNat) 1 4 with
 |false=>
  rw [hm] at hmy
  rw [if_neg (by rw [show (((1:Nat):Int))=1 from rfl,hm];decide)] at hst
  exact Ma h hc hok hs 261 (by rw [hop];rfl) (enters_of Tryz.func261 (by kernel_rfl) rfl) hst (fun W hW hh=>au ((C9 hh hc hok).parts3 (Fc hh hc hok) (AH p.PS p.pc).1.op ha hb Bf (hc.ok.regs _).1) hmy)
 |true=>
  rw [hm] at hmy
  rw [if_pos (by rw [show (((1:Nat):Int))=1 from rfl,hm])] at hst
  rw [if_pos rfl] at hst
  have hby:=Nu (n:=1) h0 hm
  refine (D7 h hc hok hs 261 (by rw [hop];rfl) (enters_of Tryz.func261 (by kernel_rfl) rfl) (pc4 p) {p with R:=p.R.set (AH p.PS p.pc).1.a.toNat (AW (Bd p.PS (BR p (AH p.PS p.pc).1.im (AH p.PS p.pc).1.b.toNat) 1) 0 1)} rfl (fun W hW hh=>(ar ((C9 hh hc hok).parts3 (Fc hh hc hok) (AH p.PS p.pc).1.op ha hb Bf (hc.ok.regs _).1) hmy).mono (fun e w' hp=>Cn hh hc ha ?_))).mono (fun e w' hf=>CH (pc4 p) _ hst (by omega) rfl hok hf)
  rw [<-hby]
  exact hp
theorem de (h:AG w pb 195 (CT p wk fds)) (hc:Can p) (hok:As p.PS) (hs:(AH p.PS p.pc).2=0) (hop:(AH p.PS p.pc).1.op=15):Calls Tryz.prog 154 #[pq pb 0] w (Df w pb p wk fds):=by
 have hbd:=Bp hc.ok.pages hs
 have ha:(AH p.PS p.pc).1.a.toNat<16:=by omega
 have hb:(AH p.PS p.pc).1.b.toNat<16:=by omega
 have h0:0<=BR p (AH p.PS p.pc).1.im (AH p.PS p.pc).1.b.toNat:=(Bl _).1
 have h1:=(Bl ((p.R.getD (AH p.PS p.pc).1.b.toNat 0)+IntKind.u64.wrap (AH p.PS p.pc).1.im)).2
 have hmy:Ae (Cx p.PS) 2 (BR p (AH p.PS p.pc).1.im (AH p.PS p.pc).1.b.toNat) 8=Bs p.PS (BR p (AH p.PS p.pc).1.im (AH p.PS p.pc).1.b.toNat) 8 2:=Fk (Hb hok) (by decide) h0 h1 (by omega) (by omega)
 have hst:=Kq hs (by omega) (by omega)
 unfold FA at hst
 rw [hop] at hst
 rw [show C0 15=8 from rfl,show F6 15=2 from rfl] at hst
 cases hm:Bs p.PS (BR p (AH p.PS p.pc).1.im (AH p.PS p.pc).1.b.toNat) 8 2 with
 |false=>
  rw [hm] at hmy
  rw [if_neg (by rw [show (((8:Nat):Int))=8 from rfl,hm];decide)] at hst
  exact Ma h hc hok hs 260 (by rw [hop];rfl) (enters_of Tryz.func260 (by kernel_rfl) rfl) hst (fun W hW hh=>dW ((C9 hh hc hok).parts3 (Fc hh hc hok) (AH p.PS p.pc).1.op ha hb Bf (hc.ok.regs _).1) hmy)
 |true=>
  rw [hm] at hmy
  rw [if_pos (by rw [show (((8:Nat):Int))=8 from rfl,hm])] at hst
  rw [if_neg (by decide)] at hst
  exact (D7 h hc hok hs 260 (by rw [hop];rfl) (enters_of Tryz.func260 (by kernel_rfl) rfl) (pc4 p) {p with PS:=Bu p.PS (BR p (AH p.PS p.pc).1.im (AH p.PS p.pc).1.b.toNat) ((A8 (p.R.getD (AH p.PS p.pc).1.a.toNat 0)).take 8) 8} rfl (fun W hW hh=>(dU ((C9 hh hc hok).parts3 (Fc hh hc hok) (AH p.PS p.pc).1.op ha hb Bf (hc.ok.regs _).1) hmy).mono (fun e w' hp=>N5 hh hc hok h0 hm hp))).mono (fun e w' hf=>CH (pc4 p) {p with PS:=Bu p.PS (BR p (AH p.PS p.pc).1.im (AH p.PS p.pc).1.b.toNat) ((A8 (p.R.getD (AH p.PS p.pc).1.a.toNat 0)).take 8) 8} hst (by omega) rfl (JP h hc.api.regs hok h0 hm ((A8 (p.R.getD (AH p.PS p.pc).1.a.toNat 0)).take 8) 8 (zx _)).2 hf)
theorem bR (h:AG w pb 195 (CT p wk fds)) (hc:Can p) (hok:As p.PS) (hs:(AH p.PS p.pc).2=0) (hop:(AH p.PS p.pc).1.op=17):Calls Tryz.prog 154 #[pq pb 0] w (Df w pb p wk fds):=by
 have hbd:=Bp hc.ok.pages hs
 have ha:(AH p.PS p.pc).1.a.toNat<16:=by omega
 have hb:(AH p.PS p.pc).1.b.toNat<16:=by omega
 have h0:0<=BR p (AH p.PS p.pc).1.im (AH p.PS p.pc).1.b.toNat:=(Bl _).1
 have h1:=(Bl ((p.R.getD (AH p.PS p.pc).1.b.toNat 0)+IntKind.u64.wrap (AH p.PS p.pc).1.im)).2
 have hmy:Ae (Cx p.PS) 2 (BR p (AH p.PS p.pc).1.im (AH p.PS p.pc).1.b.toNat) 1=Bs p.PS (BR p (AH p.PS p.pc).1.im (AH p.PS p.pc).1.b.toNat) 1 2:=Fk (Hb hok) (by decide) h0 h1 (by omega) (by omega)
 have hst:=Kq hs (by omega) (by omega)
 unfold FA at hst
 rw [hop] at hst
 rw [show C0 17=1 from rfl,show F6 17=2 from rfl] at hst
 cases hm:Bs p.PS (BR p (AH p.PS p.pc).1.im (AH p.PS p.pc).1.b.toNat) 1 2 with
 |false=>
  rw [hm] at hmy
  rw [if_neg (by rw [show (((1:Nat):Int))=1 from rfl,hm];decide)] at hst
  exact Ma h hc hok hs 262 (by rw [hop];rfl) (enters_of Tryz.func262 (by kernel_rfl) rfl) hst (fun W hW hh=>av ((C9 hh hc hok).parts3 (Fc hh hc hok) (AH p.PS p.pc).1.op ha hb Bf (hc.ok.regs _).1) hmy)
 |true=>
  rw [hm] at hmy
  rw [if_pos (by rw [show (((1:Nat):Int))=1 from rfl,hm])] at hst
  rw [if_neg (by decide)] at hst
  exact (D7 h hc hok hs 262 (by rw [hop];rfl) (enters_of Tryz.func262 (by kernel_rfl) rfl) (pc4 p) {p with PS:=Bu p.PS (BR p (AH p.PS p.pc).1.im (AH p.PS p.pc).1.b.toNat) ((A8 (p.R.getD (AH p.PS p.pc).1.a.toNat 0)).take 1) 1} rfl (fun W hW hh=>(gx ((C9 hh hc hok).parts3 (Fc hh hc hok) (AH p.PS p.pc).1.op ha hb Bf (hc.ok.regs _).1) hmy).mono (fun e w' hp=>N5 hh hc hok h0 hm hp))).mono (fun e w' hf=>CH (pc4 p) {p with PS:=Bu p.PS (BR p (AH p.PS p.pc).1.im (AH p.PS p.pc).1.b.toNat) ((A8 (p.R.getD (AH p.PS p.pc).1.a.toNat 0)).take 1) 1} hst (by omega) rfl (JP h hc.api.regs hok h0 hm ((A8 (p.R.getD (AH p.PS p.pc).1.a.toNat 0)).take 1) 1 (zx _)).2 hf)
theorem Tg (h:AG w pb 195 (CT p wk fds)) (hc:Can p) (hok:As p.PS) (h24:(AH p.PS p.pc).2=0->(AH p.PS p.pc).1.op≠24):Calls Tryz.prog 154 #[pq pb 0] w (Df w pb p wk fds):=by
 by_cases hs:0<(AH p.PS p.pc).2
 ·refine (Q8 pb 0 (AH p.PS p.pc).2 w (VR h hc hok hs)).mono ?_
  rintro e w' ⟨h1,h2⟩
  exact .inl ⟨_,by omega,by unfold Au;rw [if_pos hs],h1,h2⟩
 ·have hs:(AH p.PS p.pc).2=0:=by
   rcases GQ p.PS p.pc with ⟨e1,e2⟩|⟨e1,e2⟩|⟨e1,e2⟩<;>omega
  have hbd:=Bp hc.ok.pages hs
  have h24:=h24 hs
  have hop:(AH p.PS p.pc).1.op=1\/(AH p.PS p.pc).1.op=2\/(AH p.PS p.pc).1.op=3\/(AH p.PS p.pc).1.op=4\/(AH p.PS p.pc).1.op=5\/(AH p.PS p.pc).1.op=6\/(AH p.PS p.pc).1.op=7\/(AH p.PS p.pc).1.op=8\/(AH p.PS p.pc).1.op=9\/(AH p.PS p.pc).1.op=10\/(AH p.PS p.pc).1.op=11\/(AH p.PS p.pc).1.op=12\/(AH p.PS p.pc).1.op=13\/(AH p.PS p.pc).1.op=14\/(AH p.PS p.pc).1.op=15\/(AH p.PS p.pc).1.op=16\/(AH p.PS p.pc).1.op=17\/(AH p.PS p.pc).1.op=18\/(AH p.PS p.pc).1.op=19\/(AH p.PS p.pc).1.op=20\/(AH p.PS p.pc).1.op=21\/(AH p.PS p.pc).1.op=22\/(AH p.PS p.pc).1.op=23:=by omega
  rcases hop with e|e|e|e|e|e|e|e|e|e|e|e|e|e|e|e|e|e|e|e|e|e|e
  ·exact dY h hc hok hs e
  ·exact YV h hc hok hs e
  ·exact YW h hc hok hs e
  ·exact az h hc hok hs e
  ·exact bB h hc hok hs e
  ·exact bC h hc hok hs e
  ·exact YX h hc hok hs e
  ·exact YY h hc hok hs e
  ·exact bD h hc hok hs e
  ·exact dZ h hc hok hs e
  ·exact bE h hc hok hs e
  ·exact bG h hc hok hs e
  ·exact bH h hc hok hs e
  ·exact dd h hc hok hs e
  ·exact de h hc hok hs e
  ·exact bQ h hc hok hs e
  ·exact bR h hc hok hs e
  ·exact bI h hc hok hs e
  ·exact bJ h hc hok hs e
  ·exact bL h hc hok hs e
  ·exact YZ h hc hok hs e
  ·exact bN h hc hok hs e
  ·exact dc h hc hok hs e
end
end
end Go.Proofs.YtdchgbmliojoiaaGreatDoor
