import Derived.Test.YtdchgbmliojoiaaGreatDoorG30
import Derived.Test.YtdchgbmliojoiaaGreatDoorG27
set_option maxRecDepth 100000
set_option maxHeartbeats 1000000
set_option linter.unusedVariables false
set_option linter.unusedSimpArgs false
namespace Go.Proofs.YtdchgbmliojoiaaGreatDoor
open Go Go.RowKit
def I5 (x:Int):Prop:=0<=x/\x<=18446744073709551615
theorem Ei {c P:Prop} [Decidable c] {x y:Option Int} {r:Int} (h:(if c then x else y)=some r) (h1:c->x=some r->P) (h2:¬c->y=some r->P):P:=by
 by_cases hc:c
 ·exact h1 hc (by rwa [if_pos hc] at h)
 ·exact h2 hc (by rwa [if_neg hc] at h)
theorem ak {op im a b r:Int} (ha:I5 a) (hb:I5 b) (h:DS op im a b=some r):I5 r:=by
 unfold DS at h
 refine Ei h (fun _ h=>by cases h;exact Bl _) (fun _ h=> ?_)
 refine Ei h (fun _ h=>by cases h;exact hb) (fun _ h=> ?_)
 refine Ei h (fun _ h=>by cases h;exact Bl _) (fun _ h=> ?_)
 refine Ei h (fun _ h=>by cases h;exact Bl _) (fun _ h=> ?_)
 refine Ei h (fun _ h=>by cases h;exact Bl _) (fun _ h=> ?_)
 refine Ei h (fun _ h=>by cases h;exact Bl _) (fun _ h=> ?_)
 refine Ei h (fun _ h=>Ei h (fun _ h=>by cases h;exact ⟨by decide,by decide⟩) (fun _ h=>by cases h;exact Bl _)) (fun _ h=> ?_)
 refine Ei h (fun _ h=>Ei h (fun _ h=>by cases h;exact ha) (fun h0 h=> ?_)) (fun _ h=> ?_)
 ·cases h
  unfold I5 at*
  rw [yn ha.1]
  have h1:=Int.emod_nonneg a h0
  have h2:=Int.emod_lt_of_pos a (show 0<b by omega)
  omega
 refine Ei h (fun _ h=>by cases h;exact Bl _) (fun _ h=> ?_)
 refine Ei h (fun _ h=>by cases h;exact Bl _) (fun _ h=> ?_)
 refine Ei h (fun _ h=>by cases h;exact Bl _) (fun _ h=> ?_)
 refine Ei h (fun _ h=>by cases h;exact Bl _) (fun _ h=> ?_)
 refine Ei h (fun _ h=> ?_) (fun _ h=>by cases h)
 cases h
 unfold I5 at*
 have h1:0<=a/2^(b%64).toNat:=Int.ediv_nonneg ha.1 (Int.le_of_lt (Int.pow_pos (by decide)))
 have h2:a/2^(b%64).toNat<=a:=Int.ediv_le_self _ ha.1
 omega
theorem Py {op im pc a b:Int} (ha:I5 a):I5 (Cf op im pc a b):=by
 unfold Cf
 split
 ·exact ha
 ·split
  ·exact Bl _
  ·exact Bl _
theorem fE {R:List Int} (h:∀r,0<=R.getD r 0/\R.getD r 0<=18446744073709551615) (i:Nat) {v:Int} (hv:I5 v):∀r,0<=(R.set i v).getD r 0/\(R.set i v).getD r 0<=18446744073709551615:=by
 intro r
 have hr:=h r
 rw [zl] at hr ⊢
 rw [yy]
 split
 ·split
  ·exact hv
  ·exact ⟨Int.le_refl 0,by decide⟩
 ·exact hr
theorem Tf {B:List Int} (h:AY B) (i:Nat) {v:Int} (hv:0<=v/\v<=255):AY (B.set i v):=by
 intro r
 have hr:=h r
 rw [zl] at hr ⊢
 rw [yy]
 split
 ·split
  ·exact hv
  ·exact ⟨Int.le_refl 0,by decide⟩
 ·exact hr
theorem O3 {PS:List Pg} (h:∀q∈PS,AY q.bytes) (x:Int) {v:Int} (hv:0<=v/\v<=255):∀q∈DV PS x v,AY q.bytes:=by
 unfold DV
 split
 ·split
  ·rename_i k q0 hq
   intro q hm
   rcases List.mem_or_eq_of_mem_set hm with h1|rfl
   ·exact h q h1
   ·exact Tf (h q0 (zv hq)) _ hv
  ·exact h
 ·exact h
theorem Kn {PS:List Pg} (h:∀q∈PS,AY q.bytes) (addr:Int) {L:List Int} (hL:AY L):∀j,∀q∈Bu PS addr L j,AY q.bytes
 |0=>h
 |j+1=>O3 (Kn h addr hL j) _ (hL j)
theorem YT (n:Int) (k:Nat):AY ((A8 n).take k):=by
 intro r
 rw [zl]
 cases hr:((A8 n).take k)[r]? with
 |none=>exact ⟨Int.le_refl 0,by decide⟩
 |some x=>
  have hm:=List.mem_of_mem_take (zv hr)
  obtain ⟨i,_,rfl⟩:=yw.1 hm
  show 0<=n/2^(8*i)%256/\n/2^(8*i)%256<=255
  omega
theorem RQ {PS:List Pg} (h:∀q∈PS,q.bytes.length=256/\AY q.bytes) (addr:Int) (n:Nat):AY (Bd PS addr n):=by
 intro r
 rw [zl]
 cases hr:(Bd PS addr n)[r]? with
 |none=>exact ⟨Int.le_refl 0,by decide⟩
 |some x=>
  obtain ⟨i,_,rfl⟩:=yw.1 (zv hr)
  exact F9 h _
structure Can (p:AP):Prop where
 ok:POk p
 api:ec p
 st:p.st=0\/p.st=2
theorem Can.ended {p:AP} (h:Can p) (s:Int):Can (p.ended s):=
 ⟨⟨by simp [AP.ended],fun q hq=>by simp [AP.ended] at hq,h.ok.pc,h.ok.regs,h.ok.pid,h.ok.par⟩,⟨h.api.regs,fun q hq=>by simp [AP.ended] at hq,by simp [AP.ended]⟩,.inr rfl⟩
theorem Can.set {p:AP} (h:Can p) (i:Nat) {v c:Int} (hv:I5 v) (hc:I5 c):Can {p with R:=p.R.set i v,pc:=c}:=
 ⟨⟨h.ok.cnt,h.ok.pages,hc,fE h.ok.regs i hv,h.ok.pid,h.ok.par⟩,⟨by show (p.R.set i v).length=16;rw [yx];exact h.api.regs,h.api.pages,h.api.count⟩,h.st⟩
theorem Can.to {p:AP} (h:Can p) {c:Int} (hc:I5 c):Can {p with pc:=c}:=⟨⟨h.ok.cnt,h.ok.pages,hc,h.ok.regs,h.ok.pid,h.ok.par⟩,⟨h.api.regs,h.api.pages,h.api.count⟩,h.st⟩
theorem Can.mem {p q:AP} (h:Can p) {op im:Int} {a b:Nat} (hm:FA p op im a b=some q):Can q:=by
 unfold FA at hm
 split at hm
 ·split at hm
  ·cases hm
   refine h.set a (c:=p.pc) ?_ h.ok.pc
   have hl:C0 op<=8:=by unfold C0;split<;>omega
   have:=BH (RQ h.ok.pages (BR p im b) (C0 op)) 0 (C0 op) hl
   exact ⟨this.1,by omega⟩
  ·cases hm
   have hs:=E6 p.PS (BR p im b) ((A8 (p.R.getD a 0)).take (C0 op)) (C0 op)
   have hby:=Kn (fun q hq=>(h.ok.pages q hq).2) (BR p im b) (YT (p.R.getD a 0) (C0 op)) (C0 op)
   generalize Bu p.PS (BR p im b) ((A8 (p.R.getD a 0)).take (C0 op)) (C0 op)=QS at hs hby
   have hl:=JM hs
   have hsh:∀q∈QS,∃r∈p.PS,r.perm=q.perm/\r.bytes.length=q.bytes.length:=fun q hq=>by
    obtain ⟨k,hk⟩:=yo.1 hq
    obtain ⟨r,h1,_,h2,h3⟩:=GO hs.symm hk
    exact ⟨r,zv h1,h2,h3⟩
   refine ⟨⟨by show QS.length<=_;rw [hl];exact h.ok.cnt,fun q hq=> ?_,h.ok.pc,h.ok.regs,h.ok.pid,h.ok.par⟩,⟨h.api.regs,fun q hq=> ?_,by show QS.length<=_;rw [hl];exact h.api.count⟩,h.st⟩
   ·obtain ⟨r,h1,h2,h3⟩:=hsh q hq
    exact ⟨by rw [<-h3];exact (h.ok.pages r h1).1,hby q hq⟩
   ·obtain ⟨r,h1,h2,h3⟩:=hsh q hq
    have:=h.api.pages r h1
    rw [h2,h3] at this
    exact this
 ·cases hm
theorem Can.step {p:AP} (h:Can p):Can (Au p):=by
 unfold Au
 split
 ·exact h.ended _
 split
 ·rename_i r hr
  exact h.set _ (ak (h.ok.regs _) (h.ok.regs _) hr) (Bl _)
 split
 ·split
  ·exact h.ended _
  ·rename_i q hq
   exact (h.mem hq).to (Bl _)
 ·split
  ·exact h.set _ (Bl _) (Py (h.ok.regs _))
  ·exact h.to (Py (h.ok.regs _))
theorem fF {w:World} {pb co:Nat} {PC U V op:Int} {a b:Nat} {im:Int} (K:Parts w pb co PC U V op a b im):Calls Tryz.prog 246 #[pq pb co,.agg #[.int .u8 op,.int .i64 (a:Int),.int .i64 (b:Int),.int .i16 im]] w (C4 w pb co PC a (IntKind.u64.wrap im)):=by
 have HK:=AC K
 have HB:=AC (Ad.new w op a b im).drew
 have BX:=AC (Ad.new w op a b im).drew.c
 clear K
 go_enter Tryz.func246,Tryz.ntmps246
 go_wp2
 go_region_held (fun W=>W.cell? (pK w.heap.size 0)=some (.int .u8 op)/\W.cell? (pK w.heap.size 1)=some (.int .i64 (a:Int))/\W.cell? (pK w.heap.size 2)=some (.int .i64 (b:Int))/\W.cell? (pK w.heap.size 3)=some (.int .i16 im)) (exact AB BX) (first|(go_at_call 322;refine ((AB HK).ri _ (AB HB)).mono ?_;rintro e wn ⟨rfl,hb⟩;clear HB BX;have BX:=AC hb.c;have HB:=AC hb;clear hb)|(go_at_call 321;refine ((AB HK).be _ _ (AB HB)).mono ?_;rintro e wn ⟨rfl,hb,hc⟩;clear BX;have BX:=AC hb;have HC:=AC hc;clear hb hc))
 go_wp2
 go_ret
 exact ⟨rfl,AB HC⟩
theorem al {w:World} {pb co:Nat} {PC U V op:Int} {a b:Nat} {im:Int} (K:Parts w pb co PC U V op a b im):Calls Tryz.prog 247 #[pq pb co,.agg #[.int .u8 op,.int .i64 (a:Int),.int .i64 (b:Int),.int .i16 im]] w (C4 w pb co PC a (V)):=by
 have HK:=AC K
 have HB:=AC (Ad.new w op a b im).drew
 have BX:=AC (Ad.new w op a b im).drew.c
 clear K
 go_enter Tryz.func247,Tryz.ntmps247
 go_wp2
 go_region_held (fun W=>W.cell? (pK w.heap.size 0)=some (.int .u8 op)/\W.cell? (pK w.heap.size 1)=some (.int .i64 (a:Int))/\W.cell? (pK w.heap.size 2)=some (.int .i64 (b:Int))/\W.cell? (pK w.heap.size 3)=some (.int .i16 im)) (exact AB BX) (first|(go_at_call 323;refine ((AB HK).rb _ (AB HB)).mono ?_;rintro e wn ⟨rfl,hb⟩;clear HB BX;have BX:=AC hb.c;have HB:=AC hb;clear hb)|(go_at_call 321;refine ((AB HK).be _ _ (AB HB)).mono ?_;rintro e wn ⟨rfl,hb,hc⟩;clear BX;have BX:=AC hb;have HC:=AC hc;clear hb hc))
 go_wp2
 go_ret
 exact ⟨rfl,AB HC⟩
theorem an {w:World} {pb co:Nat} {PC U V op:Int} {a b:Nat} {im:Int} (K:Parts w pb co PC U V op a b im):Calls Tryz.prog 248 #[pq pb co,.agg #[.int .u8 op,.int .i64 (a:Int),.int .i64 (b:Int),.int .i16 im]] w (C4 w pb co PC a (IntKind.u64.wrap (V+IntKind.u64.wrap im))):=by
 have HK:=AC K
 have HB:=AC (Ad.new w op a b im).drew
 have BX:=AC (Ad.new w op a b im).drew.c
 clear K
 go_enter Tryz.func248,Tryz.ntmps248
 go_wp2
 go_region_held (fun W=>W.cell? (pK w.heap.size 0)=some (.int .u8 op)/\W.cell? (pK w.heap.size 1)=some (.int .i64 (a:Int))/\W.cell? (pK w.heap.size 2)=some (.int .i64 (b:Int))/\W.cell? (pK w.heap.size 3)=some (.int .i16 im)) (exact AB BX) (first|(go_at_call 323;refine ((AB HK).rb _ (AB HB)).mono ?_;rintro e wn ⟨rfl,hb⟩;clear HB BX;have BX:=AC hb.c;have HB:=AC hb;clear hb)|(go_at_call 322;refine ((AB HK).ri _ (AB HB)).mono ?_;rintro e wn ⟨rfl,hb⟩;clear HB BX;have BX:=AC hb.c;have HB:=AC hb;clear hb)|(go_at_call 321;refine ((AB HK).be _ _ (AB HB)).mono ?_;rintro e wn ⟨rfl,hb,hc⟩;clear BX;have BX:=AC hb;have HC:=AC hc;clear hb hc))
 go_wp2
 go_ret
 exact ⟨rfl,AB HC⟩
theorem dH {w:World} {pb co:Nat} {PC U V op:Int} {a b:Nat} {im:Int} (K:Parts w pb co PC U V op a b im):Calls Tryz.prog 249 #[pq pb co,.agg #[.int .u8 op,.int .i64 (a:Int),.int .i64 (b:Int),.int .i16 im]] w (C4 w pb co PC a (IntKind.u64.wrap (U+V))):=by
 have HK:=AC K
 have HB:=AC (Ad.new w op a b im).drew
 have BX:=AC (Ad.new w op a b im).drew.c
 clear K
 go_enter Tryz.func249,Tryz.ntmps249
 go_wp2
 go_region_held (fun W=>W.cell? (pK w.heap.size 0)=some (.int .u8 op)/\W.cell? (pK w.heap.size 1)=some (.int .i64 (a:Int))/\W.cell? (pK w.heap.size 2)=some (.int .i64 (b:Int))/\W.cell? (pK w.heap.size 3)=some (.int .i16 im)) (exact AB BX) (first|(go_at_call 324;refine ((AB HK).ra _ (AB HB)).mono ?_;rintro e wn ⟨rfl,hb⟩;clear HB BX;have BX:=AC hb.c;have HB:=AC hb;clear hb)|(go_at_call 323;refine ((AB HK).rb _ (AB HB)).mono ?_;rintro e wn ⟨rfl,hb⟩;clear HB BX;have BX:=AC hb.c;have HB:=AC hb;clear hb)|(go_at_call 321;refine ((AB HK).be _ _ (AB HB)).mono ?_;rintro e wn ⟨rfl,hb,hc⟩;clear BX;have BX:=AC hb;have HC:=AC hc;clear hb hc))
 go_wp2
 go_ret
 exact ⟨rfl,AB HC⟩
theorem dI {w:World} {pb co:Nat} {PC U V op:Int} {a b:Nat} {im:Int} (K:Parts w pb co PC U V op a b im):Calls Tryz.prog 250 #[pq pb co,.agg #[.int .u8 op,.int .i64 (a:Int),.int .i64 (b:Int),.int .i16 im]] w (C4 w pb co PC a (IntKind.u64.wrap (U-V))):=by
 have HK:=AC K
 have HB:=AC (Ad.new w op a b im).drew
 have BX:=AC (Ad.new w op a b im).drew.c
 clear K
 go_enter Tryz.func250,Tryz.ntmps250
 go_wp2
 go_region_held (fun W=>W.cell? (pK w.heap.size 0)=some (.int .u8 op)/\W.cell? (pK w.heap.size 1)=some (.int .i64 (a:Int))/\W.cell? (pK w.heap.size 2)=some (.int .i64 (b:Int))/\W.cell? (pK w.heap.size 3)=some (.int .i16 im)) (exact AB BX) (first|(go_at_call 324;refine ((AB HK).ra _ (AB HB)).mono ?_;rintro e wn ⟨rfl,hb⟩;clear HB BX;have BX:=AC hb.c;have HB:=AC hb;clear hb)|(go_at_call 323;refine ((AB HK).rb _ (AB HB)).mono ?_;rintro e wn ⟨rfl,hb⟩;clear HB BX;have BX:=AC hb.c;have HB:=AC hb;clear hb)|(go_at_call 321;refine ((AB HK).be _ _ (AB HB)).mono ?_;rintro e wn ⟨rfl,hb,hc⟩;clear BX;have BX:=AC hb;have HC:=AC hc;clear hb hc))
 go_wp2
 go_ret
 exact ⟨rfl,AB HC⟩
theorem dO {w:World} {pb co:Nat} {PC U V op:Int} {a b:Nat} {im:Int} (K:Parts2 w pb co PC U V op a b im):Calls Tryz.prog 263 #[pq pb co,.agg #[.int .u8 op,.int .i64 (a:Int),.int .i64 (b:Int),.int .i16 im]] w (EZ w (IU PC im (U==V))):=by
 have HK:=AC K
 have HB:=AC (Ad.new w op a b im).drew
 have BX:=AC (Ad.new w op a b im).drew.c
 clear K
 go_enter Tryz.func263,Tryz.ntmps263
 go_wp2
 go_region_held (fun W=>W.cell? (pK w.heap.size 0)=some (.int .u8 op)/\W.cell? (pK w.heap.size 1)=some (.int .i64 (a:Int))/\W.cell? (pK w.heap.size 2)=some (.int .i64 (b:Int))/\W.cell? (pK w.heap.size 3)=some (.int .i16 im)) (exact AB BX) (first|(go_at_call 324;refine ((AB HK).ra _ (AB HB)).mono ?_;rintro e wn ⟨rfl,hb⟩;clear HB BX;have BX:=AC hb.c;have HB:=AC hb;clear hb)|(go_at_call 323;refine ((AB HK).rb _ (AB HB)).mono ?_;rintro e wn ⟨rfl,hb⟩;clear HB BX;have BX:=AC hb.c;have HB:=AC hb;clear hb)|(go_at_call 330;refine ((AB HK).br _ _ (AB HB)).mono ?_;rintro e wn ⟨rfl,hb⟩;clear HB BX;have BX:=AC hb.c;have HB:=AC hb;clear hb))
 go_wp2
 go_ret
 exact ⟨rfl,(AB HB).below⟩
theorem dP {w:World} {pb co:Nat} {PC U V op:Int} {a b:Nat} {im:Int} (K:Parts2 w pb co PC U V op a b im):Calls Tryz.prog 264 #[pq pb co,.agg #[.int .u8 op,.int .i64 (a:Int),.int .i64 (b:Int),.int .i16 im]] w (EZ w (IU PC im (U !=V))):=by
 have HK:=AC K
 have HB:=AC (Ad.new w op a b im).drew
 have BX:=AC (Ad.new w op a b im).drew.c
 clear K
 go_enter Tryz.func264,Tryz.ntmps264
 go_wp2
 go_region_held (fun W=>W.cell? (pK w.heap.size 0)=some (.int .u8 op)/\W.cell? (pK w.heap.size 1)=some (.int .i64 (a:Int))/\W.cell? (pK w.heap.size 2)=some (.int .i64 (b:Int))/\W.cell? (pK w.heap.size 3)=some (.int .i16 im)) (exact AB BX) (first|(go_at_call 324;refine ((AB HK).ra _ (AB HB)).mono ?_;rintro e wn ⟨rfl,hb⟩;clear HB BX;have BX:=AC hb.c;have HB:=AC hb;clear hb)|(go_at_call 323;refine ((AB HK).rb _ (AB HB)).mono ?_;rintro e wn ⟨rfl,hb⟩;clear HB BX;have BX:=AC hb.c;have HB:=AC hb;clear hb)|(go_at_call 330;refine ((AB HK).br _ _ (AB HB)).mono ?_;rintro e wn ⟨rfl,hb⟩;clear HB BX;have BX:=AC hb.c;have HB:=AC hb;clear hb))
 go_wp2
 go_ret
 exact ⟨rfl,(AB HB).below⟩
theorem fH {w:World} {pb co:Nat} {PC U V op:Int} {a b:Nat} {im:Int} (K:Parts w pb co PC U V op a b im):Calls Tryz.prog 268 #[pq pb co,.agg #[.int .u8 op,.int .i64 (a:Int),.int .i64 (b:Int),.int .i16 im]] w (EZ w U):=by
 have HK:=AC K
 have HB:=AC (Ad.new w op a b im)
 have BX:=AC (Ad.new w op a b im).c
 clear K
 go_enter Tryz.func268,Tryz.ntmps268
 go_wp2_with (first|(go_at_call 324;refine ((AB HK).ra _ (AB HB)).mono ?_;rintro e wn ⟨rfl,hb⟩;clear HB BX;have BX:=AC hb.c;have HB:=AC hb;clear hb))
 go_ret
 exact ⟨rfl,(AB HB).below⟩
theorem PF (wb:Nat) (kp:Addr) (B C base kb g cap gp cp:Nat) (k:RK) (p:AP) (aa:Option Addr) (ga ca:Nat) (w:World) (Post:World->World->Prop) (h0:w.cell? (pK wb 0)=some (.pointer (some kp))) (h1:w.cell? (pK wb 1)=some (pq kb 0)) (hwb:wb<B\/C<=wb) (h:Td w C base kb g cap gp cp k p aa ga ca) (hst:p.st=2)
  (HPG:∀W,Below w.heap.size w W->Calls Tryz.prog 51 #[.pointer (some kp),.int .i64 1] W fun e W'=>∃ev,e= .returned ev/\Post W W'/\Cl W W' B C/\Calls Tryz.prog 8 #[ev] W' fun e W2=>e= .returned (.int .i64 24)/\Below W'.heap.size W' W2):
  Calls Tryz.prog 23 #[pq wb 0,.int .i64 1] w fun e w'=>e= .returned (.bool true)/\∃W W',Below w.heap.size w W/\Post W W'/\Cl W W' B C/\Below W'.heap.size W' w':=by
 have c5:w.cell? (pK kb 5)=some (.slice (some (pK gp 0)) 1 cp):=by rw [<-h.pv];exact h.ker.1.cell rfl
 have c0:w.cell? (pK gp 0)=some (.int .i64 1):=by have:=h.proc.row 0 _ rfl;rwa [zq,h.ok.pid] at this
 have c2:w.cell? (pK gp 2)=some (.int .i64 2):=by have:=h.proc.row 2 _ rfl;rwa [zq,hst] at this
 have HPR:=AC (FO kb gp cp w c5 c0)
 have HH:=AC h
 have HE:=AC hst
 have HP:=AC HPG
 have HWB:=AC hwb
 clear h hst HPG hwb
 go_enter Tryz.func23,Tryz.ntmps23
 go_wp2_with fail
 refine (AB HPR).mono ?_
 rintro e w1 ⟨rfl,hw1⟩
 subst hw1
 go_upto_region 4 with fail
 obtain ⟨W1,hW1⟩:∃W1,W1=w1.alloc (Obj.cells #[.int .i64 0,.int .i64 0,.int .i64 0,.string ⟨#[]⟩,.slice none 0 0,.slice none 0 0] 146):=⟨_,rfl⟩
 have hb1:Below w1.heap.size w1 W1:=by rw [hW1];exact (zw _ _).alloc (zx _) _
 rw [<-hW1]
 have hcl:∀b i v,w1.cell? (pK b i)=some v->W1.cell? (pK b i)=some v:=fun b i v hv=>by rw [hb1.cell (p:=(pK b i)) (zu w1 _ hv)];exact hv
 have d0:=hcl _ _ _ h0
 have d1:=hcl _ _ _ h1
 have d5:=hcl _ _ _ c5
 have d2:=hcl _ _ _ c2
 have HST:=AC (AB HP W1 hb1)
 have HB1:=AC hb1
 have H00:=AC (And.intro h0 h1)
 clear hW1 hb1 hcl c0 c2 c5 h0 h1 HPR
 go_wp2_with fail
 refine (AB HST).mono ?_
 rintro e w4 ⟨ev,rfl,hpost,hkc,htl⟩
 have hk3:=(AB HH).keeps (B:=B) (Cl.ofBelow (AB HB1))
 have hk4:=hk3.keeps hkc
 have x1:w4.cell? (pK wb 1)=some (pq kb 0):=hkc.cell d1 (by rcases AB HWB with q|q;exact .inr q;exact .inl q)
 have HK4:=AC hk4
 have HPO:=AC (And.intro hpost hkc)
 have HX1:=AC x1
 have HTN:=AC htl
 clear hk3 hk4 hpost hkc htl HST x1 d0 d1 d5 d2
 go_wp2_with fail
 refine (AB HTN).mono ?_
 rintro e w5 ⟨rfl,hb5⟩
 have hk5:=(AB HK4).keeps (B:=B) (Cl.ofBelow hb5)
 have x1:w5.cell? (pK wb 1)=some (pq kb 0):=by rw [hb5.cell (p:=(pK wb 1)) (zu w4 _ (AB HX1))];exact AB HX1
 have y5:w5.cell? (pK kb 5)=some (.slice (some (pK gp 0)) 1 cp):=by rw [<-hk5.pv];exact hk5.ker.1.cell rfl
 have y0:w5.cell? (pK gp 0)=some (.int .i64 1):=by have:=hk5.proc.row 0 _ rfl;rwa [zq,hk5.ok.pid] at this
 have y2:w5.cell? (pK gp 2)=some (.int .i64 2):=by have:=hk5.proc.row 2 _ rfl;rwa [zq,AB HE] at this
 have HSR:=AC (Oz kb gp cp w5 y5 y0 y2)
 have HB5:=AC hb5
 clear hk5 hb5 HTN y5 y0 y2
 go_wp2_with (go_at_call 19;refine (Te _ _).mono ?_;rintro e w8 ⟨rfl,rfl⟩)
 refine (AB HSR).mono ?_
 rintro e w6 ⟨rfl,hb6⟩
 have HF:=AC (show ∃W W',Below w1.heap.size w1 W/\Post W W'/\Cl W W' B C/\Below W'.heap.size W' w6 from ⟨W1,w4,AB HB1,(AB HPO).1,(AB HPO).2,(AB HB5).trans (hb6.mono (AB HB5).size)⟩)
 clear hb6 HSR x1
 go_wp2
 go_ret
 exact ⟨rfl,AB HF⟩
end Go.Proofs.YtdchgbmliojoiaaGreatDoor
