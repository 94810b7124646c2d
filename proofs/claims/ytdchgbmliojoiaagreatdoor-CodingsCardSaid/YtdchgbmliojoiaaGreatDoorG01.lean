import Derived.Test.YtdchgbmliojoiaaGreatDoorProg
import Derived.WalkKit
import Derived.ProofKit
import Derived.Below
import Derived.Deep.RegionHeld3
import Derived.Maps.OwnOps
import Derived.LaidEql
import Derived.Stop.Asserts
import Derived.RowKitTokens
import Derived.Laws.CopyOwn
set_option maxHeartbeats 4000000
namespace Go.Proofs.YtdchgbmliojoiaaGreatDoor
section
open Go Go.RowKit Go.Maps
abbrev zz:=@List.getElem?_eq_getElem
abbrev zy:=@List.getElem?_eq_some_iff
abbrev zx:=@Nat.le_refl
abbrev zw:=@Below.refl
abbrev zv:=@List.mem_of_getElem?
abbrev zu:=@World.block_lt_of_cell?
abbrev zr:=@Option.some.inj
abbrev zq:=@Nat.zero_add
abbrev zp:=@List.getElem?_append_left
abbrev zo:=@List.getElem?_append_right
abbrev zn:=@List.length_append
abbrev zm:=@List.setIfInBounds_toArray
abbrev zl:=@List.getD_eq_getElem?_getD
abbrev zk:=@World.grownBy.refl
abbrev zj:=@List.set_cons_succ
abbrev zi:=@List.set_cons_zero
abbrev zh:=@Nat.le_trans
abbrev zg:=@List.mem_range
abbrev ze:=@List.getElem?_map
abbrev zc:=@List.length_map
abbrev zb:=@List.all_eq_true
abbrev za:=@Nat.lt_of_lt_of_le
abbrev z7:=@World.cell?_setCell_other
abbrev z8:=@World.cell?_setCell_same
abbrev yz:=@List.getElem?_eq_none
abbrev yy:=@List.getElem?_set
abbrev yx:=@List.length_set
abbrev yw:=@List.mem_map
abbrev yv:=@List.length_take
abbrev yu:=@List.getElem?_append
abbrev yt:=@List.mem_append_left
abbrev yr:=@List.mem_cons_self
abbrev yq:=@List.mem_of_find?_eq_some
abbrev yp:=@World.ownsMap.lt
abbrev yo:=@List.mem_iff_getElem?
abbrev yn:=@Int.tmod_eq_emod_of_nonneg
abbrev ym:=@IntKind.wrap_u64
abbrev yl:=@IntKind.wrap_i64
abbrev yk:=@Result.andThen_ok
abbrev yj:=@Nat.add_sub_cancel_left
abbrev yi:=@List.take_append_of_le_length
abbrev yh:=@List.take_of_length_le
abbrev yg:=@List.drop_eq_nil_of_le
abbrev ye:=@List.append_assoc
abbrev yc:=@List.nil_append
abbrev xz:=@List.append_nil
abbrev xy:=@List.getElem?_take
abbrev xx:=@List.getElem?_range
abbrev xw:=@List.getElem?_replicate
abbrev xv:=@List.find?_eq_none
abbrev xu:=@Array.length_toList
abbrev xt:=@List.map_append
abbrev pq (b o:Nat):Value:=.pointer (some ⟨b,o,none⟩)
abbrev pK (b o:Nat):Addr:=⟨b,o,none⟩
end
section
open Go.RowKit Go.Extern.Stop Go.Stop Go.Extern
theorem Tryz.valueOfP (t:Addr) (w:World):(ReflectliteValue.unpack (.iface 64 (.pointer (some t)))).run Tryz.prog w
  = .ok (.agg #[pq 6 64,pq w.heap.size 0,.int .u64 150]) (w.alloc (.cells #[.pointer (some t)] 64)):=by kernel_rfl
theorem Tryz.typeP (a:Addr) (w:World):(ReflectliteValue.methodAny (ReflectliteValue.valueError "reflectlite.Value.Type" 0) (fun t _ _ _=>ReflectliteType.toType t) #[.agg #[pq 6 64,.pointer (some a),.int .u64 150]]).run Tryz.prog w
  = .ok (.iface 206 (.agg #[pq 6 64])) w:=by kernel_rfl
theorem Tryz.methodKind (h:Value) (w:World):(Go.method 711 206 (.agg #[h]) "Kind").run Tryz.prog w= .ok (467,h) w:=by kernel_rfl
theorem Tryz.kindP (w:World):((ReflectliteType.abiMethod fun t=>Functor.map (fun a:Nat=>Value.int IntKind.u8 (a:Int)) (Rtype.kind t)) #[pq 6 64]).run Tryz.prog w= .ok (.int .u8 22) w:=by kernel_rfl
theorem Tryz.kindE (w:World):((ReflectliteType.abiMethod fun t=>Functor.map (fun a:Nat=>Value.int IntKind.u8 (a:Int)) (Rtype.kind t)) #[pq 6 47]).run Tryz.prog w= .ok (.int .u8 2) w:=by kernel_rfl
theorem eC (v:Value) (h1 h2):(#[v]:Array Value).getLit 0 (n:=1) h1 h2=v:=rfl
theorem gQ (v x:Value) (h1 h2):(#[v,x]:Array Value).getLit 0 (n:=2) h1 h2=v:=rfl
theorem gR (v x:Value) (h1 h2):(#[v,x]:Array Value).getLit 1 (n:=2) h1 h2=x:=rfl
theorem Tryz.partsP (a:Addr) (w:World):(ReflectliteValue.parts (.agg #[pq 6 64,.pointer (some a),.int .u64 150])).run Tryz.prog w= .ok (some (64,a,150)) w:=by kernel_rfl
theorem Tryz.isNilP (a p:Addr) (W:World) (ha:W.cell? a=some (.pointer (some p))):
  (ReflectliteValue.method (ReflectliteValue.valueError "reflectlite.Value.IsNil" 0) ReflectliteValue.isNil #[.agg #[pq 6 64,.pointer (some a),.int .u64 150]]).run Tryz.prog W= .ok (.bool false) W:=by
 change (bind (ReflectliteValue.parts _) _:Sem Value).run Tryz.prog W=_
 simp only [eC,Sem.run_bind,Tryz.partsP,Result.andThen]
 simp [ReflectliteValue.isNil,loadVar,isAgg,underlying,Tryz.underlying64,ha,Result.andThen]
theorem Tryz.methodElem (h:Value) (w:World):(Go.method 711 206 (.agg #[h]) "Elem").run Tryz.prog w= .ok (487,.agg #[h]) w:=by kernel_rfl
theorem Tryz.methodImplements (h:Value) (w:World):(Go.method 711 206 (.agg #[h]) "Implements").run Tryz.prog w= .ok (488,.agg #[h]) w:=by kernel_rfl
theorem Tryz.methodAssignableTo (h:Value) (w:World):(Go.method 711 206 (.agg #[h]) "AssignableTo").run Tryz.prog w= .ok (485,.agg #[h]) w:=by kernel_rfl
theorem Tryz.elemP (w:World):(ReflectliteType.method ReflectliteType.elem #[.agg #[pq 6 64]]).run Tryz.prog w= .ok (.iface 206 (.agg #[pq 6 47])) w:=by kernel_rfl
theorem Tryz.implementsE (w:World):(ReflectliteType.relation "Implements" ReflectliteType.implements_ #[.agg #[pq 6 47],.iface 206 (.agg #[pq 6 41])]).run Tryz.prog w= .ok (.bool true) w:=by kernel_rfl
theorem Tryz.typeOfE (v:Value) (w:World):(ReflectliteType.typeOf #[.iface 47 v]).run Tryz.prog w= .ok (.iface 206 (.agg #[pq 6 47])) w:=by kernel_rfl
theorem Tryz.assignableE (w:World):(ReflectliteType.relation "AssignableTo" ReflectliteType.assignableTo #[.agg #[pq 6 47],.iface 206 (.agg #[pq 6 47])]).run Tryz.prog w= .ok (.bool true) w:=by kernel_rfl
theorem Tryz.valueOfE (n:Int) (w:World):(ReflectliteValue.unpack (.iface 47 (.int .i64 n))).run Tryz.prog w
  = .ok (.agg #[pq 6 47,pq w.heap.size 0,.int .u64 130]) (w.alloc (.cells #[.int .i64 n] 47)):=by kernel_rfl
theorem Tryz.elemOfP (w:World):(Rtype.elem? 64).run Tryz.prog w= .ok (some 47) w:=by kernel_rfl
theorem Tryz.mkE (p:Addr) (w:World):(ReflectliteValue.mk 47 p ReflectliteValue.flagAddr).run Tryz.prog w= .ok (.agg #[pq 6 47,.pointer (some p),.int .u64 386]) w:=by kernel_rfl
theorem Tryz.elemVP (a p:Addr) (W:World) (ha:W.cell? a=some (.pointer (some p))):
  (ReflectliteValue.method (ReflectliteValue.valueError "reflectlite.Value.Elem" 0) ReflectliteValue.elem #[.agg #[pq 6 64,.pointer (some a),.int .u64 150]]).run Tryz.prog W
   = .ok (.agg #[pq 6 47,.pointer (some p),.int .u64 386]) W:=by
 change (bind (ReflectliteValue.parts _) _:Sem Value).run Tryz.prog W=_
 simp only [eC,Sem.run_bind,Tryz.partsP,Result.andThen]
 simp [ReflectliteValue.elem,loadVar,isAgg,underlying,Tryz.underlying64,ha,Result.andThen,Tryz.elemOfP,Tryz.mkE]
theorem Tryz.partsEa (a:Addr) (w:World):(ReflectliteValue.parts (.agg #[pq 6 47,.pointer (some a),.int .u64 386])).run Tryz.prog w= .ok (some (47,a,386)) w:=by kernel_rfl
theorem Tryz.partsE (a:Addr) (w:World):(ReflectliteValue.parts (.agg #[pq 6 47,.pointer (some a),.int .u64 130])).run Tryz.prog w= .ok (some (47,a,130)) w:=by kernel_rfl
theorem Tryz.directE (w:World):(Rtype.directlyAssignable 47 47).run Tryz.prog w= .ok true w:=by kernel_rfl
theorem Tryz.setE (ta b:Addr) (n:Int) (old:Value) (W:World) (hb:W.cell? b=some (.int .i64 n)) (ht:W.cell? ta=some old) (hf:W.frozen? ta=false):
  (ReflectliteValue.set #[.agg #[pq 6 47,.pointer (some ta),.int .u64 386],.agg #[pq 6 47,.pointer (some b),.int .u64 130]]).run Tryz.prog W
   = .ok (.tuple #[]) (W.setCell ta (.int .i64 n)):=by
 change (bind (ReflectliteValue.parts _) _:Sem Value).run Tryz.prog W=_
 simp only [gQ,gR,Sem.run_bind,Tryz.partsEa,Tryz.partsE,Result.andThen]
 simp [ReflectliteValue.flagAddr,loadVar,isAgg,underlying,Tryz.underlying47,hb,Result.andThen,Tryz.directE,storeVar,Value.cells,storeCells,Addr.add]
 rw [run_store Tryz.prog W ta _ _ (by rfl)]
 simp [ht,hf]
theorem eM (n:Int) (t:Addr) (old:Value) (w:World) (hg:w.cell? (pK 0 0)=some (.iface 206 (.agg #[pq 6 41]))) (ht0:w.cell? t=some old) (hf0:w.frozen? t=false):
  Calls Tryz.prog 14 #[.iface 47 (.int .i64 n),.iface 64 (.pointer (some t))] w fun ev w'=>ev= .returned (.bool true)/\w'=((((w.alloc (.cells #[.pointer (some t)] 64)).alloc (.cells #[pq 6 64,pq w.heap.size 0,.int .u64 150] 117)).alloc (.cells #[pq 6 64,pq w.heap.size 0,.int .u64 150] 117)).alloc (.cells #[.int .i64 n] 47)).setCell t (.int .i64 n):=by
 have h6:= @run_callFunc_extern Tryz.prog 36 _ (fun args=>ReflectliteValue.unpack (args.getD 0 (.tuple #[]))) Tryz.func36 (by kernel_rfl) (by kernel_rfl) (by kernel_rfl) (by kernel_rfl)
 have h7:= @run_callFunc_extern Tryz.prog 37 _ (ReflectliteValue.methodAny (ReflectliteValue.valueError "reflectlite.Value.Type" 0) (fun t _ _ _=>ReflectliteType.toType t)) Tryz.func37 (by kernel_rfl) (by kernel_rfl) (by kernel_rfl) (by kernel_rfl)
 have h8:= @run_callFunc_extern Tryz.prog 38 _ (ReflectliteValue.method (ReflectliteValue.valueError "reflectlite.Value.IsNil" 0) ReflectliteValue.isNil) Tryz.func38 (by kernel_rfl) (by kernel_rfl) (by kernel_rfl) (by kernel_rfl)
 have h27:= @run_callFunc_extern Tryz.prog 467 _ (ReflectliteType.abiMethod fun t=>do pure (.int .u8 (<-Rtype.kind t))) Tryz.func467 (by kernel_rfl) (by kernel_rfl) (by kernel_rfl) (by kernel_rfl)
 have h37:= @run_callFunc_extern Tryz.prog 487 _ (ReflectliteType.method ReflectliteType.elem) Tryz.func487 (by kernel_rfl) (by kernel_rfl) (by kernel_rfl) (by kernel_rfl)
 have h38:= @run_callFunc_extern Tryz.prog 488 _ (ReflectliteType.relation "Implements" ReflectliteType.implements_) Tryz.func488 (by kernel_rfl) (by kernel_rfl) (by kernel_rfl) (by kernel_rfl)
 have h10:= @run_callFunc_extern Tryz.prog 77 _ ReflectliteType.typeOf Tryz.func77 (by kernel_rfl) (by kernel_rfl) (by kernel_rfl) (by kernel_rfl)
 have h35:= @run_callFunc_extern Tryz.prog 485 _ (ReflectliteType.relation "AssignableTo" ReflectliteType.assignableTo) Tryz.func485 (by kernel_rfl) (by kernel_rfl) (by kernel_rfl) (by kernel_rfl)
 have h11:= @run_callFunc_extern Tryz.prog 78 _ (ReflectliteValue.method (ReflectliteValue.valueError "reflectlite.Value.Elem" 0) ReflectliteValue.elem) Tryz.func78 (by kernel_rfl) (by kernel_rfl) (by kernel_rfl) (by kernel_rfl)
 have h12:= @run_callFunc_extern Tryz.prog 79 _ ReflectliteValue.set Tryz.func79 (by kernel_rfl) (by kernel_rfl) (by kernel_rfl) (by kernel_rfl)
 have tO:=Tryz.typeOfE
 have mA:=Tryz.methodAssignableTo
 have a25:=Tryz.assignableE
 have v25:=Tryz.valueOfE
 have f6:=Tryz.valueOfP
 have f7:=Tryz.typeP
 have mK:=Tryz.methodKind
 have mE:=Tryz.methodElem
 have mI:=Tryz.methodImplements
 have k27:=Tryz.kindP
 have k25:=Tryz.kindE
 have e27:=Tryz.elemP
 have i25:=Tryz.implementsE
 have n8:=Tryz.isNilP (pK w.heap.size 0) t ((w.alloc (.cells #[.pointer (some t)] 64)).alloc (.cells #[pq 6 64,pq w.heap.size 0,.int .u64 150] 117)) (by simp)
 have hlt:0<w.heap.size:=by
  rcases Nat.eq_zero_or_pos w.heap.size with h0|h
  ·simp [World.cell?,h0] at hg
  ·exact h
 have hg2:((w.alloc (.cells #[.pointer (some t)] 64)).alloc (.cells #[pq 6 64,pq w.heap.size 0,.int .u64 150] 117)).cell? (pK 0 0)=some (.iface 206 (.agg #[pq 6 41])):=by
  rw [World.cell?_alloc_lt _ _ (pK 0 0) (by simp),World.cell?_alloc_lt _ _ (pK 0 0) hlt];exact hg
 have htl:t.block<w.heap.size:=by
  rcases Nat.lt_or_ge t.block w.heap.size with h|h
  ·exact h
  ·simp [World.cell?,Array.getElem?_eq_none h] at ht0
 have el:=Tryz.elemVP (pK w.heap.size 0) t (((w.alloc (.cells #[.pointer (some t)] 64)).alloc (.cells #[pq 6 64,pq w.heap.size 0,.int .u64 150] 117)).alloc (.cells #[pq 6 64,pq w.heap.size 0,.int .u64 150] 117)) (by rw [World.cell?_alloc_lt _ _ (pK w.heap.size 0) (by simp;omega)];simp)
 have st:=Tryz.setE t (pK (w.heap.size+1+1+1) 0) n old ((((w.alloc (.cells #[.pointer (some t)] 64)).alloc (.cells #[pq 6 64,pq w.heap.size 0,.int .u64 150] 117)).alloc (.cells #[pq 6 64,pq w.heap.size 0,.int .u64 150] 117)).alloc (.cells #[.int .i64 n] 47))
  (by rw [World.cell?_alloc_at _ _ _ _ (by simp)];rfl)
  (by rw [World.cell?_alloc_lt _ _ t (by simp;omega),World.cell?_alloc_lt _ _ t (by simp;omega),World.cell?_alloc_lt _ _ t (by simp;omega),World.cell?_alloc_lt _ _ t htl];exact ht0)
  (by rw [World.frozen?_alloc_old _ _ t (by simp;omega),World.frozen?_alloc_old _ _ t (by simp;omega),World.frozen?_alloc_old _ _ t (by simp;omega),World.frozen?_alloc_old _ _ t (Nat.ne_of_lt htl)];exact hf0)
 go_enter Tryz.func14,Tryz.ntmps14
 go_wp2
 refine wp_loop_rounds 1 ?_
 rw [rounds_succ]
 go_wp2
 go_ret
 exact ⟨rfl,rfl⟩
theorem KA (w:World):Calls Tryz.prog 8 #[.nilIface] w fun e w'=>e= .returned (.int .i64 0)/\Below w.heap.size w w':=by
 go_enter Tryz.func8,Tryz.ntmps8
 go_wp2
 go_ret
 exact ⟨rfl,(zw _ _).alloc (zx _) _⟩
theorem PO (n:Int) (w:World) (hg:w.cell? (pK 0 0)=some (.iface 206 (.agg #[pq 6 41]))):
  Calls Tryz.prog 8 #[.iface 47 (.int .i64 n)] w fun e w'=>e= .returned (.int .i64 n)/\Below w.heap.size w w':=by
 have hlt:0<w.heap.size:=by
  rcases Nat.eq_zero_or_pos w.heap.size with h0|h
  ·simp [World.cell?,h0] at hg
  ·exact h
 have hgA:(w.alloc (.cells #[.int .i64 0] 47)).cell? (pK 0 0)=some (.iface 206 (.agg #[pq 6 41])):=by
  rw [World.cell?_alloc_lt _ _ (pK 0 0) hlt];exact hg
 have htA:(w.alloc (.cells #[.int .i64 0] 47)).cell? (pK w.heap.size 0)=some (.int .i64 0):=by simp
 have hfA:(w.alloc (.cells #[.int .i64 0] 47)).frozen? (pK w.heap.size 0)=false:=by simp
 go_enter Tryz.func8,Tryz.ntmps8
 go_wp2_with (go_at_call 14;refine (eM n _ (.int .i64 0) _ hgA htA hfA).mono ?_;rintro e w' ⟨rfl,rfl⟩)
 go_ret
 refine ⟨rfl,?_⟩
 exact (((((zw _ _).alloc (zx _) _).alloc (by simp) _).alloc (by simp;omega) _).alloc (by simp;omega) _).alloc (by simp;omega) _
end
section
open Go Go.RowKit
theorem AC {p:Prop} (h:p):Hid p:=h
theorem AB {p:Prop} (h:Hid p):p:=h
def AG (W:World) (b:Nat) (t:TypeId) (vs:List Value):Prop:=W.heap[b]? =some (.cells vs.toArray t (0,0))
theorem AG.cell {W:World} {b:Nat} {t:TypeId} {vs:List Value} (h:AG W b t vs) {j:Nat} {v:Value} (hj:vs[j]? =some v):W.cell? (pK b j)=some v:=by
 unfold AG at h;simp [World.cell?,h,hj]
theorem AG.frozen {W:World} {b:Nat} {t:TypeId} {vs:List Value} (h:AG W b t vs) (j:Nat):W.frozen? (pK b j)=false:=by
 unfold AG at h;simp [World.frozen?,h]
theorem AG.lt {W:World} {b:Nat} {t:TypeId} {vs:List Value} (h:AG W b t vs):b<W.heap.size:=by
 unfold AG at h
 exact (Array.getElem?_eq_some_iff.1 h).1
theorem AG.set {W:World} {b:Nat} {t:TypeId} {vs:List Value} (h:AG W b t vs) (j:Nat) (v:Value):AG (W.setCell (pK b j) v) b t (vs.set j v):=by
 unfold AG at h ⊢
 simp only [World.setCell,Array.getElem?_modify,h]
 simp
theorem AG.set_other {W:World} {b c:Nat} {t:TypeId} {vs:List Value} (h:AG W b t vs) (hne:b≠c) (j:Nat) (v:Value):AG (W.setCell (pK c j) v) b t vs:=by
 unfold AG at h ⊢
 rw [Below.heap_setCell _ _ _ _ hne];exact h
theorem AG.grown {W W':World} {b:Nat} {t:TypeId} {vs:List Value} {row:Option Nat} (h:AG W b t vs) (hg:W.grownBy W' row) (hne:some b≠row):AG W' b t vs:=by
 have hl:=h.lt
 unfold AG at h ⊢
 rw [hg.block b hl hne];exact h
theorem AG.below {W W':World} {b B:Nat} {t:TypeId} {vs:List Value} (h:AG W b t vs) (hg:Below B W W') (hlt:b<B):AG W' b t vs:=by
 unfold AG at h ⊢
 rw [hg.block b hlt];exact h
theorem AG.alloc {W:World} {b:Nat} {t:TypeId} {vs:List Value} (h:AG W b t vs) (o:Obj):AG (W.alloc o) b t vs:=by
 have hl:=h.lt
 unfold AG at h ⊢
 rw [Below.heap_alloc _ _ _ hl];exact h
theorem AG.new (W:World) (t:TypeId) (vs:List Value):AG (W.alloc (.cells vs.toArray t)) W.heap.size t vs:=by
 unfold AG
 show (W.heap.push _)[W.heap.size]? =_
 simp
theorem AG.heap {W W':World} {b:Nat} {t:TypeId} {vs:List Value} (h:AG W b t vs) (he:W'.heap=W.heap):AG W' b t vs:=by
 unfold AG at h ⊢;rw [he];exact h
theorem AS {w wr:World} {b:Nat} (h:w.grownBy wr (some b)) (j:Nat) (v:Value):w.grownBy (wr.setCell (pK b j) v) (some b):=
 ⟨h.os,h.tape,h.output,by simp only [World.setCell,Array.size_modify];exact h.size,fun k hk hne=>by
  rw [Below.heap_setCell _ _ _ _ (fun e=>hne (by simp [e])),h.block k hk hne]⟩
theorem EA {a b c:World} {row:Option Nat} (h:a.grownBy b row) (k:b.grownBy c row):a.grownBy c row:=
 ⟨k.os.trans h.os,k.tape.trans h.tape,k.output.trans h.output,zh h.size k.size,fun i hi hne=>(k.block i (za hi h.size) hne).trans (h.block i hi hne)⟩
theorem Ag {B b:Nat} {w wr:World} (h:w.grownBy wr (some b)) (hB:B<=b) (hw:B<=w.heap.size):Below B w wr:=
 ⟨h.os,h.tape,h.output,h.size,fun k hk=>h.block k (by omega) (fun e=>by simp at e;omega)⟩
theorem Ji {w w':World} {g b:Nat} (hg:w.grownBy w' (some g)) (hb:b<w.heap.size) (hne:b≠g) (o:Nat):w'.cell? (pK b o)=w.cell? (pK b o):=
 World.cell?_of_block (a:=(pK b o)) (hg.block b hb (by simpa using hne))
theorem Dh {α:Type} (L:List α) (off:Nat) (cs:List α) (h:off+cs.length<=L.length) (j:Nat):
  (splice L off cs)[j]? =if j<off then L[j]? else if j<off+cs.length then cs[j-off]? else L[j]? :=by
 unfold splice
 rw [yu]
 have e:(L.take off).length=off:=by simp;omega
 rw [e]
 split
 ·rw [xy];simp [*]
 ·rw [yu]
  split
  ·rw [if_pos (by omega)]
  ·rw [if_neg (by omega),List.getElem?_drop]
   congr 1;omega
theorem EB {α:Type} (L:List α) (off:Nat):splice L off []=L:=by simp [splice]
theorem BE {α:Type} (L:List α) (off:Nat) (cs:List α) (h:off+cs.length<=L.length):(splice L off cs).length=L.length:=length_splice L off cs h
theorem GE {α:Type} (L:List α) (off:Nat) (xs:List α) (k:Nat) (x:α) (hx:xs[k]? =some x) (h:off+xs.length<=L.length):
  (splice L off (xs.take k)).set (off+k) x=splice L off (xs.take (k+1)):=by
 have hk:k<xs.length:=(zy.1 hx).1
 have h1:off+(xs.take k).length<=L.length:=by simp;omega
 have h2:off+(xs.take (k+1)).length<=L.length:=by simp;omega
 apply List.ext_getElem?
 intro j
 rw [yy,Dh _ _ _ h1,Dh _ _ _ h2,BE _ _ _ h1]
 have e1:(xs.take k).length=k:=by simp;omega
 have e2:(xs.take (k+1)).length=k+1:=by simp;omega
 rw [e1,e2]
 by_cases hj:off+k=j
 ·subst hj
  rw [if_pos rfl,if_pos (by omega),if_neg (by omega),if_pos (by omega),yj,xy,if_pos (by omega),hx]
 ·rw [if_neg hj]
  by_cases a:j<off
  ·simp [a]
  ·by_cases c:j<off+k
   ·rw [if_neg a,if_pos c,if_neg a,if_pos (by omega),xy,xy,if_pos (by omega),if_pos (by omega)]
   ·rw [if_neg a,if_neg c,if_neg a,if_neg (by omega)]
theorem FT {α:Type} (L:List α) (off:Nat) (xs ys:List α) (h:off+xs.length+ys.length<=L.length):
  splice (splice L off xs) (off+xs.length) ys=splice L off (xs++ys):=by
 have h1:off+xs.length<=L.length:=by omega
 apply List.ext_getElem?
 intro j
 rw [Dh _ _ _ (by rw [BE _ _ _ h1];exact h),Dh _ _ _ h1,Dh _ _ _ (by simp;omega),zn]
 by_cases a:j<off
 ·simp [a];intro;omega
 ·by_cases c:j<off+xs.length
  ·rw [if_pos c,if_neg a,if_pos c,if_neg a,if_pos (by omega),zp (by omega)]
  ·by_cases d:j<off+xs.length+ys.length
   ·rw [if_neg c,if_pos d,if_neg a,if_pos (by omega),zo (by omega)]
    congr 1;omega
   ·rw [if_neg c,if_neg d,if_neg a,if_neg c,if_neg a,if_neg (by omega)]
def AJ (L:List Int):List Value:=L.map (Value.int .u8)
theorem AM (L:List Int):(AJ L).length=L.length:=by simp [AJ]
theorem AT (L:List Int) (j:Nat) (h:j<L.length):(AJ L)[j]? =some (.int .u8 (L.getD j 0)):=by
 simp [AJ,List.getD,zz h]
theorem Co (L:List Int) (j:Nat) (x:Int):(AJ L).set j (.int .u8 x)=AJ (L.set j x):=by
 simp [AJ,List.map_set]
theorem B4 (L:List Int) (off:Nat) (xs:List Int):splice (AJ L) off (AJ xs)=AJ (splice L off xs):=by
 simp [AJ,splice,List.map_take,List.map_drop]
theorem AG.bytes {W:World} {b:Nat} {t:TypeId} {L:List Int} (h:AG W b t (AJ L)):∀j,j<L.length->W.cell? (pK b j)=some (.int .u8 (L.getD j 0)):=
 fun j hj=>h.cell (AT L j hj)
def A8 (n:Int):List Int:=(List.range 8).map fun k=>n/2^(8*k)%256
theorem Bn (n:Int):(A8 n).length=8:=by simp [A8]
theorem Me (n:Int) (k:Nat) (h:k<8):(A8 n)[k]? =some (n/2^(8*k)%256):=by
 simp [A8,h]
def Cw (ws:List Int):List Value:=ws.map (Value.int .u64)
theorem KB (L:List Int) (j:Nat) (h:j<L.length):(Cw L)[j]? =some (.int .u64 (L.getD j 0)):=by
 simp [Cw,List.getD,zz h]
theorem QE (L:List Int) (j:Nat) (x:Int):(Cw L).set j (.int .u64 x)=Cw (L.set j x):=by
 simp [Cw,List.map_set]
def By (ws:List Int):List Int:=ws.flatMap A8
theorem EV (ws:List Int):(By ws).length=8*ws.length:=by
 unfold By
 induction ws with
 |nil=>rfl
 |cons w r ih=>rw [List.flatMap_cons,zn,ih,Bn,List.length_cons];omega
theorem UJ (ws:List Int):∀(i k:Nat),k<8->i<ws.length->(By ws)[8*i+k]? =some (ws.getD i 0/2^(8*k)%256):=by
 induction ws with
 |nil=>intro i k _ h;simp at h
 |cons w r ih=>
  intro i k hk hi
  unfold By
  rw [List.flatMap_cons]
  cases i with
  |zero=>
   rw [zp (by rw [Bn];omega)]
   simpa using Me w k hk
  |succ i=>
   rw [zo (by rw [Bn];omega),Bn]
   have:=ih i k hk (by simpa using hi)
   unfold By at this
   have e:8*(i+1)+k-8=8*i+k:=by omega
   rw [e,this];simp
theorem BO {W w7:World} {base size n:Nat} {e:TypeId} {v:Value} {xs:List Value} (h:W.ownsRow base e size v n xs) (hb:Hid (Below W.heap.size W w7)):w7.ownsRow base e size v n xs:=
 h.kept (row:=none) ⟨(AB hb).os,(AB hb).tape,(AB hb).output,(AB hb).size,fun k hk _=>(AB hb).block k hk⟩ (by
  cases hv:Value.ownBlock v with
  |none=>exact .inl rfl
  |some q=>exact .inr (by simp))
end
end Go.Proofs.YtdchgbmliojoiaaGreatDoor
