import Derived.Test.YtpcjkidgohpeoaaGreatDoorProg
import Derived.WalkKit
import Derived.ProofKit
import Derived.Below
import Derived.Deep.RegionHeld3
import Derived.Maps.OwnOps
import Derived.Deep.AppendLies
import Derived.Laws.CopyOwn
import Derived.Laws.Strings2
set_option maxRecDepth 100000
set_option maxHeartbeats 1000000
set_option linter.all false
namespace Go.Proofs.YtpcjkidgohpeoaaGreatDoor
section
open Go Go.RowKit Go.Maps
abbrev zz:=@List.getElem?_eq_getElem
abbrev zy:=@List.getElem?_eq_some_iff
abbrev zx:=@Nat.le_refl
abbrev zw:=@Below.refl
abbrev zv:=@List.mem_of_getElem?
abbrev zu:=@World.block_lt_of_cell?
abbrev zr:=@Option.some.inj
abbrev zq:=@Nat.zero_add
abbrev zo:=@List.getElem?_append_left
abbrev zn:=@List.getElem?_append_right
abbrev zm:=@List.length_append
abbrev zl:=@List.setIfInBounds_toArray
abbrev zk:=@List.getD_eq_getElem?_getD
abbrev zj:=@World.grownBy.refl
abbrev zi:=@List.set_cons_succ
abbrev zh:=@List.set_cons_zero
abbrev zg:=@Nat.le_trans
abbrev zf:=@List.mem_range
abbrev ze:=@List.getElem?_map
abbrev zc:=@List.length_map
abbrev za:=@List.all_eq_true
abbrev yz:=@Nat.lt_of_lt_of_le
abbrev yy:=@World.cell?_setCell_other
abbrev yx:=@World.cell?_setCell_same
abbrev yw:=@List.getElem?_eq_none
abbrev yv:=@List.getElem?_set
abbrev yu:=@List.length_set
abbrev yt:=@List.mem_map
abbrev yr:=@List.length_take
abbrev yq:=@List.getElem?_append
abbrev yo:=@Array.getElem?_eq_some_iff
abbrev yn:=@List.mem_append_left
abbrev ym:=@List.mem_cons_self
abbrev yk:=@List.mem_of_find?_eq_some
abbrev yj:=@List.mem_iff_getElem?
abbrev yi:=@Int.tmod_eq_emod_of_nonneg
abbrev yh:=@IntKind.wrap_u64
abbrev yg:=@IntKind.wrap_i64
abbrev ye:=@Result.andThen_ok
abbrev yc:=@Nat.add_sub_cancel_left
abbrev ya:=@Nat.sub_self
abbrev xy:=@List.take_append_of_le_length
abbrev xx:=@List.take_of_length_le
abbrev xw:=@List.drop_eq_nil_of_le
abbrev xu:=@List.append_assoc
abbrev xt:=@List.nil_append
abbrev xr:=@List.append_nil
abbrev xq:=@List.getElem?_take
abbrev xo:=@List.getElem?_range
abbrev xn:=@List.getElem?_replicate
abbrev xm:=@List.find?_eq_none
abbrev xl:=@Array.length_toList
abbrev xj:=@List.map_append
abbrev xi:=@And.intro
abbrev xh:=@bodyPost_ret
abbrev xf:=@wp_region_held_drew
abbrev vz:=@if_neg
abbrev vu:=@if_pos
abbrev vr:=@AllReadyH.nil
abbrev vq:=@AllReadyH.cons
abbrev vp:=@List.mem_cons
abbrev vo:=@List.mem_append
abbrev vk:=@List.mem_filter
abbrev vi:=@List.flatMap_cons
abbrev vg:=@wpAnyH_done
abbrev vf:=@decide_eq_false
abbrev ve:=@decide_eq_true
abbrev vd:=@List.pairwise_iff_getElem
abbrev uz:=@List.eq_nil_of_length_eq_zero
abbrev uy:=@World.ownsRow_nil
abbrev ux:=@World.cell?_alloc_lt
abbrev uw:=@List.take_add_one
abbrev uu:=@List.not_mem_nil
abbrev ut:=@List.mem_cons_of_mem
abbrev ur:=@List.flatMap_append
abbrev uq:=@List.take_append_drop
abbrev up:=@Option.map_eq_some_iff
abbrev uo:=@List.findIdx?_eq_some_iff_getElem
abbrev un:=@List.drop_eq_getElem_cons
abbrev um:=@List.length_cons
abbrev ul:=@List.set_append_right
abbrev uk:=@Sem.run_bind
abbrev uj:=@List.getElem?_set_self
abbrev ui:=@List.mem_map_of_mem
abbrev uh:=@List.take_length
abbrev ug:=@Bool.and_eq_true
abbrev ue:=@run_underlying
abbrev ud:=@List.pairwise_append
abbrev uc:=@List.getElem?_set_ne
abbrev ub:=@List.map_cons
abbrev ua:=@List.filter_cons_of_neg
abbrev tz:=@List.length_replicate
abbrev tx:=@List.length_range
abbrev tw:=@ByteArray.toList_eq
abbrev tu:=@of_decide_eq_true
abbrev tt:=@List.cons.injEq
abbrev tr:=@of_decide_eq_false
abbrev tp:=@List.filter_eq_nil_iff
abbrev tm:=@List.find?_eq_some_iff_getElem
abbrev tj:=@Int.tdiv_eq_ediv_of_nonneg
abbrev tg:=@List.filter_cons_of_pos
abbrev tf:=@Classical.byContradiction
abbrev te:=@wpList_load_mid
abbrev sy:=@List.mem_flatMap
abbrev sx:=@List.length_drop
abbrev sr:=@Sem.run_pure
abbrev sq:=@Nat.add_zero
abbrev sm:=@List.mem_of_mem_take
abbrev sk:=@List.mem_iff_getElem
abbrev sj:=@Nat.lt_succ_iff_lt_or_eq
abbrev si:=@Int.le_refl
abbrev sh:=@List.findIdx?_eq_none_iff
abbrev sf:=@Nat.eq_zero_or_pos
abbrev se:=@List.pairwise_cons
abbrev sd:=@Nat.add_assoc
abbrev rz:=@List.sum_cons
abbrev ry:=@List.mem_append_right
abbrev rx:=@List.map_map
abbrev ru:=@List.ext_getElem?
abbrev rr:=@World.frozen?_alloc_old
abbrev rq:=@List.mem_of_mem_drop
abbrev rp:=@List.getElem_mem
abbrev rm:=@List.drop_append
abbrev rl:=@List.length_pos_of_mem
abbrev rj:=@List.mem_or_eq_of_mem_set
abbrev ri:=@List.replicate_succ
abbrev rh:=@decide_eq_true_eq
abbrev rf:=@Nat.lt_trichotomy
abbrev re:=@List.find?_append
abbrev qz:=@List.find?_some
abbrev qy:=@World.cell?_of_block
abbrev qx:=@Prod.mk.injEq
abbrev qw:=@List.drop_of_length_le
abbrev qv:=@List.map_congr_left
abbrev qu:=@List.filter_eq_self
abbrev qt:=@List.eq_of_mem_replicate
abbrev qr:=@List.countP_eq_length_filter
abbrev qk:=@beq_eq_false_iff_ne
abbrev qj:=@World.news_of_block
abbrev qh:=@List.mem_singleton
abbrev qg:=@Option.ne_none_iff_exists'
abbrev qf:=@List.range_succ
abbrev qP (b o:Nat):Value:=.pointer (some ⟨b,o,none⟩)
abbrev xK (b o:Nat):Addr:=⟨b,o,none⟩
def om {p:Prop} (h:p:=by omega):p:=h
def kf {p:Prop} (h:p:=by kernel_rfl):p:=h
def dz {p:Prop} (h:p:=by decide):p:=h
def sO {p:Prop} (h:p:=by simp;omega):p:=h
def sI {p:Prop} (h:p:=by simp):p:=h
def gS {p:Prop} (h:p:=by go_simp):p:=h
def sU {p q:Prop} (h:p) (e:p->q:=by intro h;simpa using h):q:=e h
def xE {α:Sort _} (a:α):∃x,x=a:=⟨a,rfl⟩
def bA {w:World} {o:Obj}:Below w.heap.size w (w.alloc o):=(Below.refl _ _).alloc (Nat.le_refl _) _
def o1 {p q:Prop} (a:p) (e:p->q:=by intro _;omega):q:=e a
def o2 {p p2 q:Prop} (a:p) (b:p2) (e:p->p2->q:=by intro _ _;omega):q:=e a b
def o3 {p p2 p3 q:Prop} (a:p) (b:p2) (c:p3) (e:p->p2->p3->q:=by intro _ _ _;omega):q:=e a b c
def o4 {p p2 p3 p4 q:Prop} (a:p) (b:p2) (c:p3) (d:p4) (e:p->p2->p3->p4->q:=by intro _ _ _ _;omega):q:=e a b c d
def o5 {p p2 p3 p4 p5 q:Prop} (a:p) (b:p2) (c:p3) (d:p4) (f:p5) (e:p->p2->p3->p4->p5->q:=by intro _ _ _ _ _;omega):q:=e a b c d f
def eH {A B:Act} {x:Operand} {v:Value} (h:A=B) (e:B.eval x=v:=by rfl):A.eval x=v:=by subst h;exact e
def eZ {A B:Act} {n:Nat} (h:A=B) (e:B.tmps.size=n:=by rfl):A.tmps.size=n:=by subst h;exact e
abbrev Bw (w W:World):=Below w.heap.size w W
abbrev iV (x:Int):Value:=.int .i64 x
abbrev sN:Value:=.slice none 0 0
abbrev sL (b o n c:Nat):Value:=.slice (some ⟨b,o,none⟩) n c
abbrev cT:=@Calls Tryz.prog
abbrev uV (x:Int):Value:=.int .u64 x
abbrev cE (w:World) (b o:Nat) (v:Value):Prop:=w.cell? ⟨b,o,none⟩=some v
abbrev rB (v:Value) (w:World) (e:Ending) (w':World):Prop:=e= .returned v/\Below w.heap.size w w'
abbrev hz (w:World):Nat:=w.heap.size
abbrev eN (f:FuncId):Prop:=∀args w,(callFunc f args).run Tryz.prog w= .ok (.enter f args) w
def H3 {a b c:Prop} (x:a) (y:b) (z:c):Hid a/\Hid b/\Hid c:=⟨x,y,z⟩
def U3 {a b c:Prop} (x:Hid a) (y:Hid b) (z:Hid c):a/\b/\c:=⟨x,y,z⟩
def H4 {a b c d:Prop} (x:a) (y:b) (z:c) (u:d):Hid a/\Hid b/\Hid c/\Hid d:=⟨x,y,z,u⟩
def U4 {a b c d:Prop} (x:Hid a) (y:Hid b) (z:Hid c) (u:Hid d):a/\b/\c/\d:=⟨x,y,z,u⟩
def H5 {a b c d e:Prop} (x:a) (y:b) (z:c) (u:d) (v:e):Hid a/\Hid b/\Hid c/\Hid d/\Hid e:=⟨x,y,z,u,v⟩
def U5 {a b c d e:Prop} (x:Hid a) (y:Hid b) (z:Hid c) (u:Hid d) (v:Hid e):a/\b/\c/\d/\e:=⟨x,y,z,u,v⟩
def H6 {a b c d e f:Prop} (x:a) (y:b) (z:c) (u:d) (v:e) (w:f):Hid a/\Hid b/\Hid c/\Hid d/\Hid e/\Hid f:=⟨x,y,z,u,v,w⟩
def U6 {a b c d e f:Prop} (x:Hid a) (y:Hid b) (z:Hid c) (u:Hid d) (v:Hid e) (w:Hid f):a/\b/\c/\d/\e/\f:=⟨x,y,z,u,v,w⟩
def H7 {a b c d e f g:Prop} (x:a) (y:b) (z:c) (u:d) (v:e) (w:f) (s:g):Hid a/\Hid b/\Hid c/\Hid d/\Hid e/\Hid f/\Hid g:=⟨x,y,z,u,v,w,s⟩
def U7 {a b c d e f g:Prop} (x:Hid a) (y:Hid b) (z:Hid c) (u:Hid d) (v:Hid e) (w:Hid f) (s:Hid g):a/\b/\c/\d/\e/\f/\g:=⟨x,y,z,u,v,w,s⟩
def H8 {a b c d e f g h:Prop} (x:a) (y:b) (z:c) (u:d) (v:e) (w:f) (s:g) (t:h):Hid a/\Hid b/\Hid c/\Hid d/\Hid e/\Hid f/\Hid g/\Hid h:=⟨x,y,z,u,v,w,s,t⟩
def U8 {a b c d e f g h:Prop} (x:Hid a) (y:Hid b) (z:Hid c) (u:Hid d) (v:Hid e) (w:Hid f) (s:Hid g) (t:Hid h):a/\b/\c/\d/\e/\f/\g/\h:=⟨x,y,z,u,v,w,s,t⟩
end
section
open RowKit Proofs.Tryz
variable {p:Prop} {W W' w wr:World} {b B:Nat} {t:TypeId} {vs:List Value} {v:Value} {row:Option Nat} (n:Int) (s:ByteArray) (ws L:List Int) (k j:Nat) (x:Int)
def AC (h:p):Hid p:=h
def AB (h:Hid p):p:=h
def AE (W:World) (b:Nat) (t:TypeId) (vs:List Value):Prop:=W.heap[b]? =some (.cells vs.toArray t (0,0))
def AE.cell (h:AE W b t vs) {j:Nat} (hj:vs[j]? =some v):W.cell? (xK b j)=some v:=by
 unfold AE at h;simp [World.cell?,h,hj]
def AE.frozen (h:AE W b t vs) (j:Nat):W.frozen? (xK b j)=false:=by
 unfold AE at h;simp [World.frozen?,h]
def AE.lt (h:AE W b t vs):b<W.heap.size:=by
 unfold AE at h;exact (yo.1 h).1
def AE.set (h:AE W b t vs) (j:Nat) (v:Value):AE (W.setCell (xK b j) v) b t (vs.set j v):=by
 unfold AE at h ⊢;simp only [World.setCell,Array.getElem?_modify,h];simp
def AE.set_other {c:Nat} (h:AE W b t vs) (C:b≠c) (j:Nat) (v:Value):AE (W.setCell (xK c j) v) b t vs:=by
 unfold AE at h ⊢;rw [Below.heap_setCell _ _ _ _ C];exact h
def AE.grown (h:AE W b t vs) (hg:W.grownBy W' row) (C:some b≠row):AE W' b t vs:=by
 have hl:=h.lt;unfold AE at h ⊢;rw [hg.block b hl C];exact h
def AE.below (h:AE W b t vs) (hg:Below B W W') (C:b<B):AE W' b t vs:=by
 unfold AE at h ⊢;rw [hg.block b C];exact h
def AE.alloc (h:AE W b t vs) (o:Obj):AE (W.alloc o) b t vs:=by
 have hl:=h.lt;unfold AE at h ⊢;rw [Below.heap_alloc _ _ _ hl];exact h
def AE.new (W:World) (t:TypeId) (vs:List Value):AE (W.alloc (.cells vs.toArray t)) W.heap.size t vs:=by
 unfold AE;show (W.heap.push _)[W.heap.size]? =_;simp
def AE.heap (h:AE W b t vs) (he:W'.heap=W.heap):AE W' b t vs:=by
 unfold AE at h ⊢;rw [he];exact h
def AI (h:w.grownBy wr (some b)) (j:Nat) (v:Value):w.grownBy (wr.setCell (xK b j) v) (some b):=
 ⟨h.os,h.tape,h.output,by simp only [World.setCell,Array.size_modify];exact h.size,λk hk C=>by
  rw [Below.heap_setCell _ _ _ _ (λe=>C (by simp [e])),h.block k hk C]⟩
def Em {a b c:World} (h:a.grownBy b row) (k:b.grownBy c row):a.grownBy c row:=
 ⟨k.os.trans h.os,k.tape.trans h.tape,k.output.trans h.output,zg h.size k.size,λi hi C=>(k.block i (yz hi h.size) C).trans (h.block i hi C)⟩
def Aa (h:w.grownBy wr (some b)) (hB:B<=b) (hw:B<=w.heap.size):Below B w wr:=
 ⟨h.os,h.tape,h.output,h.size,λk hk=>h.block k om (λe=>by simp at e;omega)⟩
def LN {w':World} {g:Nat} (hg:w.grownBy w' (some g)) (hb:b<w.heap.size) (C:b≠g) (o:Nat):w'.cell? (xK b o)=w.cell? (xK b o):=
 qy (a:=(xK b o)) (hg.block b hb (sU C))
def EA {α:Type} (L:List α) (off:Nat) (cs:List α) (h:off+cs.length<=L.length) (j:Nat):
  (splice L off cs)[j]? =if j<off then L[j]? else if j<off+cs.length then cs[j-off]? else L[j]? :=by
 unfold splice;rw [yq];have e:(L.take off).length=off:=sO;rw [e];split
 ·rw [xq];simp [*]
 ·rw [yq];split
  ·rw [vu om]
  ·rw [vz om,List.getElem?_drop];congr 1;omega
def En {α:Type} (L:List α) (off:Nat):splice L off []=L:=by simp [splice]
def BJ {α:Type} (L:List α) (off:Nat) (cs:List α) (h:off+cs.length<=L.length):(splice L off cs).length=L.length:=length_splice L off cs h
def Hc {α:Type} (L:List α) (off:Nat) (xs:List α) (k:Nat) (x:α) (hx:xs[k]? =some x) (h:off+xs.length<=L.length):
  (splice L off (xs.take k)).set (off+k) x=splice L off (xs.take (k+1)):=by
 have hk:k<xs.length:=(zy.1 hx).1;have h1:off+(xs.take k).length<=L.length:=sO;have h2:off+(xs.take (k+1)).length<=L.length:=sO;apply ru;intro j;rw [yv,EA _ _ _ h1,EA _ _ _ h2,BJ _ _ _ h1];have e1:(xs.take k).length=k:=sO;have e2:(xs.take (k+1)).length=k+1:=sO;rw [e1,e2];by_cases hj:off+k=j
 ·subst hj;rw [vu rfl,vu om,vz om,vu om,yc,xq,vu om,hx]
 ·rw [vz hj];by_cases a:j<off
  ·simp [a]
  ·by_cases c:j<off+k
   ·rw [vz a,vu c,vz a,vu om,xq,xq,vu om,vu om]
   ·rw [vz a,vz c,vz a,vz om]
def GN {α:Type} (L:List α) (off:Nat) (xs ys:List α) (h:off+xs.length+ys.length<=L.length):
  splice (splice L off xs) (off+xs.length) ys=splice L off (xs++ys):=by
 have h1:off+xs.length<=L.length:=om;apply ru;intro j;rw [EA _ _ _ (by rw [BJ _ _ _ h1];exact h),EA _ _ _ h1,EA _ _ _ sO,zm];by_cases a:j<off
 ·simp [a];intro;omega
 ·by_cases c:j<off+xs.length
  ·rw [vu c,vz a,vu c,vz a,vu om,zo om]
  ·by_cases d:j<off+xs.length+ys.length
   ·rw [vz c,vu d,vz a,vu om,zn om];congr 1;omega
   ·rw [vz c,vz d,vz a,vz c,vz a,vz om]
def AF (L:List Int):List Value:=L.map (Value.int .u8)
def AG:(AF L).length=L.length:=by simp [AF]
def AN (h:j<L.length):(AF L)[j]? =some (.int .u8 (L.getD j 0)):=by
 simp [AF,List.getD,zz h]
def Cz:(AF L).set j (.int .u8 x)=AF (L.set j x):=by
 simp [AF,List.map_set]
def CD (off:Nat) (xs:List Int):splice (AF L) off (AF xs)=AF (splice L off xs):=by
 simp [AF,splice,List.map_take,List.map_drop]
def AE.bytes {L:List Int} (h:AE W b t (AF L)):∀j,j<L.length->W.cell? (xK b j)=some (.int .u8 (L.getD j 0)):=
 λj hj=>h.cell (AN L j hj)
def Fm (n:Int):List Int:=(List.range 8).map λk=>n/2^(8*k)%256
def ET:(Fm n).length=8:=by simp [Fm]
def Pr (h:k<8):(Fm n)[k]? =some (n/2^(8*k)%256):=by
 simp [Fm,h]
def Dt (ws:List Int):List Value:=ws.map (Value.int .u64)
def MC (h:j<L.length):(Dt L)[j]? =some (uV (L.getD j 0)):=by
 simp [Dt,List.getD,zz h]
def Tq:(Dt L).set j (uV x)=Dt (L.set j x):=by
 simp [Dt,List.map_set]
def Cg (ws:List Int):List Int:=ws.flatMap Fm
def FO:(Cg ws).length=8*ws.length:=by
 unfold Cg
 induction ws with
 |nil=>rfl
 |cons w r ih=>rw [vi,zm,ih,ET,um];omega
def YW:∀(i k:Nat),k<8->i<ws.length->(Cg ws)[8*i+k]? =some (ws.getD i 0/2^(8*k)%256):=by
 induction ws with
 |nil=>intro i k _ h;simp at h
 |cons w r ih=>
  intro i k hk hi;unfold Cg;rw [vi]
  cases i with
  |zero=>
   rw [zo (by rw [ET];omega)]
   simpa using Pr w k hk
  |succ i=>
   rw [zn (by rw [ET];omega),ET];have:=ih i k hk (sU hi);unfold Cg at this;have e:8*(i+1)+k-8=8*i+k:=om;rw [e,this];simp
def Aw {w7:World} {base C n:Nat} {e:TypeId} {xs:List Value} (h:W.ownsRow base e C v n xs) (hb:Hid (Bw W w7)):w7.ownsRow base e C v n xs:=
 h.kept (row:=none) ⟨hb.os,hb.tape,hb.output,hb.size,λk hk _=>hb.block k hk⟩ (by
  cases hv:Value.ownBlock v with
  |none=>exact .inl rfl
  |some q=>exact .inr sI)
def KZ (s:ByteArray):Bool:=s.data.toList.all (λc=>c !=0&&c !=47)
def Ba (s:ByteArray):Bool:=decide (1<=s.size)&&decide (s.size<=14)&& !(s.toList==[46])&& !(s.toList==[46,46])&&KZ s
def So (c:UInt8):((c.toNat:Int)==0)=(c==0):=by
 by_cases h:c=0
 ·subst h;rfl
 ·have h1:(c==0)=false:=sU h;rw [h1];have h2:c.toNat≠0:=λe=>h (UInt8.toNat_inj.1 e);simp;omega
def Ix (c:UInt8):((c.toNat:Int)==47)=(c==47):=by
 by_cases h:c=47
 ·subst h;rfl
 ·have h1:(c==47)=false:=sU h;rw [h1];have h2:c.toNat≠47:=λe=>h (UInt8.toNat_inj.1 e);simp;omega
def MD (h:j<s.size):s.data.toList[j]? =some s[j]:=by
 have h2:j<s.data.toList.length:=sU h;rw [zz h2];rfl
def ge {l:List UInt8} {f:UInt8->Bool} (h:∀j,j<l.length->∀c,l[j]? =some c->f c=true):l.all f=true:=by
 rw [za];intro c hc;obtain ⟨j,hj,rfl⟩:=sk.1 hc;exact h j hj _ (zz hj)
def bD {l:List UInt8} {f:UInt8->Bool} {j:Nat} {c:UInt8} (h:l[j]? =some c) (hf:f c=false):l.all f=false:=by
 rw [List.all_eq_false];exact ⟨c,zv h,by rw [hf];decide⟩
def Kz (w:World) (hs:s.size<=1000):cT 176 #[.string s] w λe w'=>e= .returned (.bool (Ba s))/\w'=w:=by
 by_cases h1:1<=s.size
 case neg=>
  have hr:Ba s=false:=by simp [Ba];omega
  rw [hr];clear hr;go_enter func176,ntmps176;go_wp2;go_ret;exact ⟨rfl,rfl⟩
 by_cases h2:s.size<=14
 case neg=>
  have hr:Ba s=false:=by simp [Ba];omega
  rw [hr];clear hr;go_enter func176,ntmps176;go_wp2;go_ret;exact ⟨rfl,rfl⟩
 by_cases h3:(s.toList==[46])=true
 ·have hr:Ba s=false:=by simp [Ba,h3]
  rw [hr];clear hr;go_enter func176,ntmps176;go_wp2;go_ret;exact ⟨rfl,rfl⟩
 have F:(s.toList==[46])=false:=sU h3;by_cases h4:(s.toList==[46,46])=true
 ·have hr:Ba s=false:=by simp [Ba,h4]
  rw [hr];clear hr h3;go_enter func176,ntmps176;go_wp2;go_ret;exact ⟨rfl,rfl⟩
 have D:(s.toList==[46,46])=false:=sU h4;have hr:Ba s=KZ s:=by simp [Ba,h1,h2,F,D]
 rw [hr];clear h3 h4 hr;go_enter func176,ntmps176;go_wp2
 go_loop [3] (λi=>∃k:Nat,k<=s.size/\i= iV k/\Hid (∀j,j<k->∀c,s.data.toList[j]? =some c->(c !=0&&c !=47)=true)) (λi=>s.size-(intOf i).toNat)
 case atStart=>exact ⟨0,om,rfl,AC (λj hj=>om)⟩
 case round=>
  obtain ⟨k,hk,rfl,HA⟩:=hrel;by_cases C:k<s.size
  ·have hd:=MD s k C;by_cases c1:s[k]=0
   ·have g1:((s[k].toNat:Int)==0)=true:=by rw [So,c1];rfl
    have hr:KZ s=false:=bD hd (by rw [c1];rfl);have HR:=AC hr;clear hd hr c1;go_wp2;go_ret;exact ⟨by rw [AB HR];rfl,rfl⟩
   have g1:((s[k].toNat:Int)==0)=false:=by rw [So];simpa using c1
   by_cases c2:s[k]=47
   ·have g2:((s[k].toNat:Int)==47)=true:=by rw [Ix,c2];rfl
    have hr:KZ s=false:=bD hd (by rw [c2];rfl);have HR:=AC hr;clear hd hr c1 c2;go_wp2;go_ret;exact ⟨by rw [AB HR];rfl,rfl⟩
   have g2:((s[k].toNat:Int)==47)=false:=by rw [Ix];simpa using c2
   have HN:Hid (∀j,j<k+1->∀c,s.data.toList[j]? =some c->(c !=0&&c !=47)=true):=AC (λj hj c hc=>by
    rcases sj.1 hj with h|h
    ·exact AB HA j h c hc
    ·subst h;rw [hd] at hc;obtain rfl:=zr hc
     simp [c1,c2])
   clear hd c1 c2;go_wp2
   go_round
   case rel=>exact ⟨k+1,om,by go_num,HN⟩
   case measure=>simp [intOf];omega
  ·have E:s.data.toList.length=s.size:=sI;have hr:KZ s=true:=ge (λj hj c hc=>AB HA j om c hc);have HR:=AC hr;clear hr E;go_wp2;go_ret;exact ⟨by rw [AB HR];rfl,rfl⟩
def parts:List UInt8->List UInt8->List (List UInt8)
 |[],word=>[word]
 |c::r,word=>if c=47 then word::parts r [] else parts r (word++[c])
def JX (l:List UInt8):ByteArray:=⟨l.toArray⟩
def Ap (s:ByteArray):List ByteArray:=(parts (s.data.toList.drop 1) []).map JX
def Al (s:ByteArray):Option (List ByteArray):=
 if 60<s.size\/s.size=0\/s.data.toList[0]?≠some 47 then none
 else if s.size=1 then some []
 else if (Ap s).all Ba=true then some (Ap s) else none
def VP (a b:ByteArray):(a++b).data.toList=a.data.toList++b.data.toList:=sI
def VQ (h:k<s.size):(s.extract k (k+1)).data.toList=[s[k]]:=by
 rw [ByteArray.data_extract];have h2:k<s.data.size:=h;rw [Array.toList_extract];simp [List.extract];rw [un (sU h2)];simp;rfl
def bE {s:ByteArray} (h1:s.size=1) (h:s.data.toList[0]? =some 47):(s.toList==[47])=true:=by
 rw [tw];have hl:s.data.toList.length=1:=sU h1
 match hx:s.data.toList,hl with
 |[c],_=>
  rw [hx] at h;have:c=47:=sU h;subst this;rfl
def bG {s:ByteArray} (h1:¬s.size=1):(s.toList==[47])=false:=by
 rw [tw,qk];intro h;have hl:s.data.toList.length=s.size:=sI;rw [h] at hl;exact h1 hl.symm
def Cq (l:List ByteArray):List Value:=l.map Value.string
def VR (l:List UInt8) (i:Nat) (C:List UInt8) (h:l[i]? =some 47):parts (l.drop i) C=C::parts (l.drop (i+1)) []:=by
 have hi:=(zy.1 h).1;rw [un hi,parts,vu (by rw [zz hi] at h;exact zr h)]
def YX (l:List UInt8) (i:Nat) (C:List UInt8) (c:UInt8) (h:l[i]? =some c) (hc:c≠47):parts (l.drop i) C=parts (l.drop (i+1)) (C++[c]):=by
 have hi:=(zy.1 h).1;have e:l[i]=c:=by rw [zz hi] at h;exact zr h
 rw [un hi,parts,e,vz hc]
def lD:(prog.info? 9).map (λi=>(i.zero,i.size,i.bytes))=some (some (.string ByteArray.empty),1,16):=kf
def DX {P:Program} {z:Value} {a:Nat} (h:(P.info? t).map (λi=>(i.zero,i.size,i.bytes))=some (some z,a,b)):∃i,P.info? t=some i/\i.zero=some z/\i.size=a/\i.bytes=b:=by
 obtain ⟨i,hi,h2⟩:=up.1 h;simp only [qx] at h2;exact ⟨i,hi,h2.1,h2.2.1,h2.2.2⟩
def Sp {s:ByteArray} (h1:s.size<=60) (h2:¬s.size=0) (h5:¬s.size=1) {c:UInt8} (hd:s.data.toList[0]? =some c) (hc:c=47) {D:List ByteArray} {W:ByteArray} (h:∃r,Ap s=D++W::r) (hn:Ba W=false):Al s=none:=by
 unfold Al;rw [vz (by rintro (h|h|h);omega;omega;exact h (by rw [hd,hc])),vz h5,vz];obtain ⟨r,h⟩:=h;rw [h,List.all_append,List.all_cons,hn];simp
def cP (s:ByteArray) (w:World) (e:Ending) (w':World):Prop:=
 (Al s=none/\e= .returned (.tuple #[sN,.bool false])\/∃l,Al s=some l/\∃v,e= .returned (.tuple #[v,.bool true])/\w'.ownsRow w.heap.size 9 1 v l.length (Cq l))/\Bw w w'
def Ts (w:World) (hs:s.size<=maxLen):cT 133 #[.string s] w λe w'=>cP s w e w':=by
 unfold maxLen at hs;by_cases h1:s.size<=60
 case neg=>
  have hr:Al s=none:=by unfold Al;rw [vu (.inl om)]
  have HR:=AC hr;clear hr;go_enter func133,ntmps133;go_wp2
  go_ret2
  exact ⟨.inl ⟨AB HR,rfl⟩,zw _ _⟩
 by_cases h2:s.size=0
 ·have hr:Al s=none:=by unfold Al;rw [vu (.inr (.inl h2))]
  have HR:=AC hr;clear hr;go_enter func133,ntmps133;go_wp2
  go_ret2
  exact ⟨.inl ⟨AB HR,rfl⟩,zw _ _⟩
 have h0:0<s.size:=om;have g0:((s.size:Int)==0)=false:=by rw [qk];omega
 have O:=MD s 0 h0;by_cases h3:s[0]=47
 case neg=>
  have hr:Al s=none:=by unfold Al;rw [vu (.inr (.inr (by rw [O];intro e;exact h3 (zr e))))]
  have HR:=AC hr
  have g:((s[0].toNat:Int) !=47)=true:=by
   have:=Ix s[0];have h4:(s[0]==47)=false:=sU h3;rw [h4] at this;simpa using this
  clear hr O h3;go_enter func133,ntmps133;go_wp2
  go_ret2
  exact ⟨.inl ⟨AB HR,rfl⟩,zw _ _⟩
 have g:((s[0].toNat:Int) !=47)=false:=by rw [h3];rfl
 by_cases h5:s.size=1
 ·have hr:Al s=some []:=by unfold Al;rw [vz (by rintro (h|h|h);omega;omega;exact h (by rw [O,h3])),vu h5]
  have HR:=AC hr;have g2:=bE h5 (O.trans (by rw [h3]));clear hr O h3;go_enter func133,ntmps133;go_wp2
  go_ret2
  exact ⟨.inr ⟨[],AB HR,_,rfl,uy _ _ _ _⟩,zw _ _⟩
 have g2:=bG h5;have HD:=AC (xi h3 O);obtain ⟨is,a6,a7,a9,a8⟩:=DX lD;have I:=AC (xi a6 (xi a7 (xi a9 a8)));clear h3 O a6 a7 a9 a8;go_enter func133,ntmps133;go_wp2
 go_loopw [4,5,6] (λl a3 i wr=>∃k:Nat,∃W:ByteArray,∃D:List ByteArray,1<=k/\k<=s.size+1/\i= iV k/\a3= .string W/\Hid (D.all Ba=true)/\D.length<=k/\W.size<=k/\
   Hid ((k<=s.size->Ap s=D++(parts (s.data.toList.drop k) W.data.toList).map JX)/\(k=s.size+1->Ap s=D))/\Hid (wr.ownsRow w.heap.size 9 1 l D.length (Cq D))/\Hid (Bw w wr)) (λ_ _ i _=>s.size+1-(intOf i).toNat)
 case atStart=>exact ⟨1,ByteArray.empty,[],om,om,rfl,rfl,AC rfl,sI,sI,AC ⟨λ_=>rfl,λh=>om⟩,AC (uy _ _ _ _),AC (zw _ _)⟩
 case round=>
  obtain ⟨k,W,D,b8,hk,rfl,rfl,Y,b7,b9,V,R,J⟩:=hrel;by_cases a1:k<s.size
  ·by_cases c1:s[k]=47
   ·have g3:((s[k].toNat:Int) !=47)=false:=by rw [c1];rfl
    have G:=V.1 om;rw [VR s.data.toList k W.data.toList (by rw [MD s k a1,c1])] at G
    have X:=AC (show (k+1<=s.size->Ap s=(D++[W])++(parts (s.data.toList.drop (k+1)) ByteArray.empty.data.toList).map JX)/\(k+1=s.size+1->Ap s=D++[W]) from
     ⟨λ_=>by rw [G,xu];rfl,λh=>om⟩)
    have a2:=AC (show ∃r,Ap s=D++W::r from ⟨_,by rw [G];rfl⟩);have T:=AC (Kz W wr om);have b0:=J.size;obtain ⟨b,hb⟩:=xE (Ba W);rw [<-hb] at T;have U:=AC hb;clear G hb c1
    go_wp2_with fail
    refine T.mono ?_;rintro e w1 ⟨rfl,a0⟩;subst a0;cases b
    ·have HR:=AC (Sp h1 h2 h5 HD.2 HD.1 a2 U.symm);go_wp2
     go_ret2
     exact ⟨.inl ⟨AB HR,rfl⟩,AB J⟩
    ·go_wp2_with (at_builtin;refine wpList_append_lies _ (by rfl) _ _ 49 (by rfl) w.heap.size 9 is _ 1 16 underlying49 I.1 I.2.1 I.2.2.1 I.2.2.2 rfl dz _ _ _ (by rfl) (R.alloc _) (xK w1.heap.size 0) 1 1 [.string W] (by rfl) (by rfl) (qj (cs:=#[.string W]) (t:=9) (fr:=(0,0)) (heap_alloc_new w1 _)) (by simp [Value.oneCell']) om (by unfold maxLen;omega) om sO (w1.heap.size+1) sI ?_;intro g M w5 F E N a5)
     have q1:w5.ownsRow w.heap.size 9 1 (sL g 0 (D.length+1) M) (D++[W]).length (Cq (D++[W])):=by
      rw [zm,show Cq (D++[W])=Cq D++[.string W] from by simp [Cq]];exact F
     have q2:Bw w w5:=(J.alloc om _).grown E sO (by intro q h;have:=R.lt q h;omega);have Q1:=AC q1;have Q2:=AC q2;clear F E N q1 q2
     go_roundw
     case rel=>exact ⟨k+1,ByteArray.empty,D++[W],om,om,by go_num,rfl,AC (by rw [List.all_append,AB Y];simp;exact U.symm),by rw [zm];simp;omega,sI,X,Q1,Q2⟩
     case measure=>simp [intOf];omega
   ·have g3:((s[k].toNat:Int) !=47)=true:=by
     have:=Ix s[k];have h4:(s[k]==47)=false:=sU c1;rw [h4] at this;simpa using this
    have G:=V.1 om;rw [YX s.data.toList k W.data.toList _ (MD s k a1) c1] at G;obtain ⟨C,hC⟩:=xE (s.extract k (k+1))
    have b6:∀w,(Instr.slice 9 (.string s) (some (iV (k:Int))) (some (iV ((k:Int)+1))) none).run prog w= .ok (.string C) w:=by
     intro w;rw [run_slice_string w 9 s .i64 .i64 (k:Int) ((k:Int)+1) underlying9 om om om,hC];rfl
    have a4:C.data.toList=[s[k]]:=by rw [hC];exact VQ s k a1
    have b3:C.size=1:=by rw [<-ByteArray.size_data,<-xl,a4];rfl
    have X:=AC (show (k+1<=s.size->Ap s=D++(parts (s.data.toList.drop (k+1)) (W++C).data.toList).map JX)/\(k+1=s.size+1->Ap s=D) from
     ⟨λ_=>by rw [G,VP,a4],λh=>om⟩)
    have b4:(W++C).size<=k+1:=by rw [ByteArray.size_append];omega
    have b5:W.size+C.size<=9223372036854775807:=om;clear G c1 hC a4 b3;go_wp2
    go_roundw
    case rel=>exact ⟨k+1,W++C,D,om,om,by go_num,rfl,Y,om,b4,X,R,J⟩
    case measure=>simp [intOf];omega
  ·by_cases b1:k=s.size
   ·subst b1;have G:=V.1 (zx _);rw [show s.data.toList.drop s.size=[] from xw sI] at G;have H:Ap s=D++[W]:=G
    have X:=AC (show (s.size+1<=s.size->Ap s=(D++[W])++(parts (s.data.toList.drop (s.size+1)) ByteArray.empty.data.toList).map JX)/\(s.size+1=s.size+1->Ap s=D++[W]) from
     ⟨λh=>om,λ_=>H⟩)
    have b2:=AC H;have a2:=AC (show ∃r,Ap s=D++W::r from ⟨[],H⟩);have T:=AC (Kz W wr om);have b0:=J.size;obtain ⟨b,hb⟩:=xE (Ba W);rw [<-hb] at T;have U:=AC hb;clear G H hb
    go_wp2_with fail
    refine T.mono ?_;rintro e w1 ⟨rfl,a0⟩;subst a0;cases b
    ·have HR:=AC (Sp h1 h2 h5 HD.2 HD.1 a2 U.symm);go_wp2
     go_ret2
     exact ⟨.inl ⟨AB HR,rfl⟩,AB J⟩
    ·go_wp2_with (at_builtin;refine wpList_append_lies _ (by rfl) _ _ 49 (by rfl) w.heap.size 9 is _ 1 16 underlying49 I.1 I.2.1 I.2.2.1 I.2.2.2 rfl dz _ _ _ (by rfl) (R.alloc _) (xK w1.heap.size 0) 1 1 [.string W] (by rfl) (by rfl) (qj (cs:=#[.string W]) (t:=9) (fr:=(0,0)) (heap_alloc_new w1 _)) (by simp [Value.oneCell']) om (by unfold maxLen;omega) om sO (w1.heap.size+1) sI ?_;intro g M w5 F E N a5)
     have q1:w5.ownsRow w.heap.size 9 1 (sL g 0 (D.length+1) M) (D++[W]).length (Cq (D++[W])):=by
      rw [zm,show Cq (D++[W])=Cq D++[.string W] from by simp [Cq]];exact F
     have q2:Bw w w5:=(J.alloc om _).grown E sO (by intro q h;have:=R.lt q h;omega);have Q1:=AC q1;have Q2:=AC q2;clear F E N q1 q2
     go_roundw
     case rel=>exact ⟨s.size+1,ByteArray.empty,D++[W],om,om,by go_num,rfl,AC (by rw [List.all_append,AB Y];simp;exact U.symm),by rw [zm];simp;omega,sI,AC ⟨λh=>om,λ_=>AB b2⟩,Q1,Q2⟩
     case measure=>simp [intOf]
   ·have Z:k=s.size+1:=om;subst Z;have G:=V.2 rfl
    have hr:Al s=some D:=by
     unfold Al;rw [vz (by rintro (h|h|h);omega;omega;exact h (by rw [HD.2,HD.1])),vz h5,G,vu (AB Y)]
    have HR:=AC hr;clear G hr;go_wp2
    go_ret2
    exact ⟨.inr ⟨D,AB HR,_,rfl,AB R⟩,AB J⟩
end
end Go.Proofs.YtpcjkidgohpeoaaGreatDoor
