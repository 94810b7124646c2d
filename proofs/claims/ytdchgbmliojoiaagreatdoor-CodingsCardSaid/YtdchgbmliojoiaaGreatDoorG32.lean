import Derived.Shelf.SlIterI.Nil
import Derived.Shelf.SortM.Plain
import Derived.Shelf.SortM.SortNone
import Derived.Shelf.SlicesE.Clone
import Derived.Defers
import Derived.Recover
import Derived.Test.YtdchgbmliojoiaaGreatDoorG27
import Derived.Test.YtdchgbmliojoiaaGreatDoorG28
import Derived.Test.YtdchgbmliojoiaaGreatDoorG30
set_option maxRecDepth 100000
set_option maxHeartbeats 1000000
set_option linter.unusedVariables false
set_option linter.unusedSimpArgs false
namespace Go.Proofs.YtdchgbmliojoiaaGreatDoor
section
open Go.Shelf
def Pq:Go.Shelf.Ren:=⟨fun|7=>199|10=>277|n=>n,fun|23=>106|26=>3|3=>104|28=>368|0=>0|27=>367|33=>92|4=>4|n=>n,fun|n=>n⟩
theorem eG:Go.Proofs.SlLaysZI.n7 Tryz.prog Pq:={
 mixed:=by kernel_rfl
 f7:=⟨Tryz.f199.name,by decide,Tryz.func199.trans (congrArg some (by kernel_rfl))⟩
 f10:=⟨Tryz.f277.name,by decide,Tryz.func277.trans (congrArg some (by kernel_rfl))⟩
 t0:=Tryz.underlying0
 a0:=Tryz.isAgg0
 z0:=Tryz.sizeOf0
 v0:=Tryz.zeroValue0
 t4:=Tryz.underlying4
 a4:=Tryz.isAgg4
 z4:=Tryz.sizeOf4
 v4:=Tryz.zeroValue4
 t23:=Tryz.underlying106
 a23:=Tryz.isAgg106
 z23:=Tryz.sizeOf106
 v23:=Tryz.zeroValue106
 t26:=Tryz.underlying3
 a26:=Tryz.isAgg3
 z26:=Tryz.sizeOf3
 v26:=Tryz.zeroValue3
 t27:=Tryz.underlying367
 a27:=Tryz.isAgg367
 z27:=Tryz.sizeOf367
 v27:=Tryz.zeroValue367
 t28:=Tryz.underlying368
 a28:=Tryz.isAgg368
 z28:=Tryz.sizeOf368
 v28:=Tryz.zeroValue368
 t33:=Tryz.underlying92
 a33:=Tryz.isAgg92
 z33:=Tryz.sizeOf92
 v33:=Tryz.zeroValue92}
def Lz:Go.Shelf.Ren:=⟨fun|6=>198|8=>275|9=>276|11=>335|13=>172|12=>336|23=>220|24=>221|14=>374|15=>375|16=>376|17=>377|18=>378|19=>379|20=>380|21=>381|22=>382|25=>419|26=>285|27=>286|28=>420|29=>421|30=>422|31=>447|n=>n,fun|26=>3|28=>368|24=>290|0=>0|3=>3|37=>29|48=>386|50=>75|4=>4|40=>380|39=>379|45=>263|5=>5|9=>9|51=>405|55=>409|57=>475|58=>130|33=>92|n=>n,fun|n=>n⟩
theorem cw:Go.Proofs.SlLaysZI.n6 Tryz.prog Lz:={
 mixed:=by kernel_rfl
 f6:=⟨Tryz.f198.name,by decide,Tryz.func198.trans (congrArg some (by kernel_rfl))⟩
 f8:=⟨Tryz.f275.name,by decide,Tryz.func275.trans (congrArg some (by kernel_rfl))⟩
 f11:=⟨Tryz.f335.name,by decide,Tryz.func335.trans (congrArg some (by kernel_rfl))⟩
 t0:=Tryz.underlying0
 a0:=Tryz.isAgg0
 z0:=Tryz.sizeOf0
 v0:=Tryz.zeroValue0
 t24:=Tryz.underlying290
 a24:=Tryz.isAgg290
 z24:=Tryz.sizeOf290
 v24:=Tryz.zeroValue290
 t26:=Tryz.underlying3
 a26:=Tryz.isAgg3
 z26:=Tryz.sizeOf3
 v26:=Tryz.zeroValue3
 t28:=Tryz.underlying368
 a28:=Tryz.isAgg368
 z28:=Tryz.sizeOf368
 v28:=Tryz.zeroValue368
 i26:=by kernel_rfl}
def Qz:Go.Shelf.Ren:=⟨fun|5=>276|8=>172|7=>336|19=>220|20=>221|10=>374|11=>375|12=>376|13=>377|14=>378|15=>379|16=>380|17=>381|18=>382|30=>419|31=>285|32=>286|33=>420|34=>421|35=>422|40=>447|n=>n,fun|23=>290|25=>3|3=>3|32=>29|22=>290|0=>0|44=>386|46=>75|4=>4|36=>380|35=>379|41=>263|5=>5|9=>9|53=>405|57=>409|63=>475|64=>130|n=>n,fun|n=>n⟩
theorem TP:Go.Proofs.SlLaysM.n5 Tryz.prog Qz:={
 mixed:=by kernel_rfl
 f5:=⟨Tryz.f276.name,by decide,Tryz.func276.trans (congrArg some (by kernel_rfl))⟩
 f7:=⟨Tryz.f336.name,by decide,Tryz.func336.trans (congrArg some (by kernel_rfl))⟩
 f8:=Tryz.func172.trans (congrArg some (by kernel_rfl))
 f10:=⟨Tryz.f374.name,by decide,Tryz.func374.trans (congrArg some (by kernel_rfl))⟩
 f11:=⟨Tryz.f375.name,by decide,Tryz.func375.trans (congrArg some (by kernel_rfl))⟩
 f12:=⟨Tryz.f376.name,by decide,Tryz.func376.trans (congrArg some (by kernel_rfl))⟩
 f13:=⟨Tryz.f377.name,by decide,Tryz.func377.trans (congrArg some (by kernel_rfl))⟩
 f14:=⟨Tryz.f378.name,by decide,Tryz.func378.trans (congrArg some (by kernel_rfl))⟩
 f15:=⟨Tryz.f379.name,by decide,Tryz.func379.trans (congrArg some (by kernel_rfl))⟩
 f16:=⟨Tryz.f380.name,by decide,Tryz.func380.trans (congrArg some (by kernel_rfl))⟩
 f17:=⟨Tryz.f381.name,by decide,Tryz.func381.trans (congrArg some (by kernel_rfl))⟩
 f18:=⟨Tryz.f382.name,by decide,Tryz.func382.trans (congrArg some (by kernel_rfl))⟩
 f19:=Tryz.func220.trans (congrArg some (by kernel_rfl))
 f20:=Tryz.func221.trans (congrArg some (by kernel_rfl))
 f30:=⟨Tryz.f419.name,by decide,Tryz.func419.trans (congrArg some (by kernel_rfl))⟩
 f31:=Tryz.func285.trans (congrArg some (by kernel_rfl))
 f32:=Tryz.func286.trans (congrArg some (by kernel_rfl))
 f33:=⟨Tryz.f420.name,by decide,Tryz.func420.trans (congrArg some (by kernel_rfl))⟩
 f34:=⟨Tryz.f421.name,by decide,Tryz.func421.trans (congrArg some (by kernel_rfl))⟩
 f35:=⟨Tryz.f422.name,by decide,Tryz.func422.trans (congrArg some (by kernel_rfl))⟩
 f40:=⟨Tryz.f447.name,by decide,Tryz.func447.trans (congrArg some (by kernel_rfl))⟩
 t0:=Tryz.underlying0
 a0:=Tryz.isAgg0
 z0:=Tryz.sizeOf0
 v0:=Tryz.zeroValue0
 t3:=Tryz.underlying3
 a3:=Tryz.isAgg3
 z3:=Tryz.sizeOf3
 v3:=Tryz.zeroValue3
 t4:=Tryz.underlying4
 a4:=Tryz.isAgg4
 z4:=Tryz.sizeOf4
 v4:=Tryz.zeroValue4
 t5:=Tryz.underlying5
 a5:=Tryz.isAgg5
 z5:=Tryz.sizeOf5
 v5:=Tryz.zeroValue5
 t9:=Tryz.underlying9
 a9:=Tryz.isAgg9
 z9:=Tryz.sizeOf9
 v9:=Tryz.zeroValue9
 t22:=Tryz.underlying290
 a22:=Tryz.isAgg290
 z22:=Tryz.sizeOf290
 v22:=Tryz.zeroValue290
 t23:=Tryz.underlying290
 a23:=Tryz.isAgg290
 z23:=Tryz.sizeOf290
 v23:=Tryz.zeroValue290
 t25:=Tryz.underlying3
 a25:=Tryz.isAgg3
 z25:=Tryz.sizeOf3
 v25:=Tryz.zeroValue3
 t32:=Tryz.underlying29
 a32:=Tryz.isAgg29
 z32:=Tryz.sizeOf29
 v32:=Tryz.zeroValue29
 t35:=Tryz.underlying379
 a35:=Tryz.isAgg379
 z35:=Tryz.sizeOf379
 v35:=Tryz.zeroValue379
 t36:=Tryz.underlying380
 a36:=Tryz.isAgg380
 z36:=Tryz.sizeOf380
 v36:=Tryz.zeroValue380
 t41:=Tryz.underlying263
 a41:=Tryz.isAgg263
 z41:=Tryz.sizeOf263
 v41:=Tryz.zeroValue263
 t44:=Tryz.underlying386
 a44:=Tryz.isAgg386
 z44:=Tryz.sizeOf386
 v44:=Tryz.zeroValue386
 t46:=Tryz.underlying75
 a46:=Tryz.isAgg75
 z46:=Tryz.sizeOf75
 v46:=Tryz.zeroValue75
 t53:=Tryz.underlying405
 a53:=Tryz.isAgg405
 z53:=Tryz.sizeOf405
 v53:=Tryz.zeroValue405
 t57:=Tryz.underlying409
 a57:=Tryz.isAgg409
 z57:=Tryz.sizeOf409
 v57:=Tryz.zeroValue409
 t63:=Tryz.underlying475
 a63:=Tryz.isAgg475
 z63:=Tryz.sizeOf475
 v63:=Tryz.zeroValue475
 t64:=Tryz.underlying130
 a64:=Tryz.isAgg130
 z64:=Tryz.sizeOf130
 v64:=Tryz.zeroValue130}
def Ov:Go.Shelf.Ren:=⟨fun|6=>204|15=>172|14=>279|28=>220|29=>221|20=>338|21=>339|22=>340|23=>341|24=>342|25=>343|26=>344|27=>345|46=>383|47=>285|48=>286|49=>384|50=>385|57=>423|n=>n,fun|22=>24|24=>46|25=>375|3=>3|39=>29|0=>0|53=>386|55=>75|4=>4|46=>380|45=>379|50=>263|5=>5|9=>9|66=>405|70=>409|76=>475|77=>130|n=>n,fun|n=>n⟩
theorem Pr:Go.Proofs.SlLaysF0.n6 Tryz.prog Ov:={
 mixed:=by kernel_rfl
 f6:=⟨Tryz.f204.name,by decide,Tryz.func204.trans (congrArg some (by kernel_rfl))⟩
 f14:=⟨Tryz.f279.name,by decide,Tryz.func279.trans (congrArg some (by kernel_rfl))⟩
 f15:=Tryz.func172.trans (congrArg some (by kernel_rfl))
 f20:=⟨Tryz.f338.name,by decide,Tryz.func338.trans (congrArg some (by kernel_rfl))⟩
 f21:=⟨Tryz.f339.name,by decide,Tryz.func339.trans (congrArg some (by kernel_rfl))⟩
 f22:=⟨Tryz.f340.name,by decide,Tryz.func340.trans (congrArg some (by kernel_rfl))⟩
 f23:=⟨Tryz.f341.name,by decide,Tryz.func341.trans (congrArg some (by kernel_rfl))⟩
 f24:=⟨Tryz.f342.name,by decide,Tryz.func342.trans (congrArg some (by kernel_rfl))⟩
 f25:=⟨Tryz.f343.name,by decide,Tryz.func343.trans (congrArg some (by kernel_rfl))⟩
 f26:=⟨Tryz.f344.name,by decide,Tryz.func344.trans (congrArg some (by kernel_rfl))⟩
 f27:=⟨Tryz.f345.name,by decide,Tryz.func345.trans (congrArg some (by kernel_rfl))⟩
 f28:=Tryz.func220.trans (congrArg some (by kernel_rfl))
 f29:=Tryz.func221.trans (congrArg some (by kernel_rfl))
 f46:=⟨Tryz.f383.name,by decide,Tryz.func383.trans (congrArg some (by kernel_rfl))⟩
 f47:=Tryz.func285.trans (congrArg some (by kernel_rfl))
 f48:=Tryz.func286.trans (congrArg some (by kernel_rfl))
 f49:=⟨Tryz.f384.name,by decide,Tryz.func384.trans (congrArg some (by kernel_rfl))⟩
 f50:=⟨Tryz.f385.name,by decide,Tryz.func385.trans (congrArg some (by kernel_rfl))⟩
 f57:=⟨Tryz.f423.name,by decide,Tryz.func423.trans (congrArg some (by kernel_rfl))⟩
 t0:=Tryz.underlying0
 a0:=Tryz.isAgg0
 z0:=Tryz.sizeOf0
 v0:=Tryz.zeroValue0
 t3:=Tryz.underlying3
 a3:=Tryz.isAgg3
 z3:=Tryz.sizeOf3
 v3:=Tryz.zeroValue3
 t4:=Tryz.underlying4
 a4:=Tryz.isAgg4
 z4:=Tryz.sizeOf4
 v4:=Tryz.zeroValue4
 t5:=Tryz.underlying5
 a5:=Tryz.isAgg5
 z5:=Tryz.sizeOf5
 v5:=Tryz.zeroValue5
 t9:=Tryz.underlying9
 a9:=Tryz.isAgg9
 z9:=Tryz.sizeOf9
 v9:=Tryz.zeroValue9
 t22:=Tryz.underlying24
 a22:=Tryz.isAgg24
 z22:=Tryz.sizeOf24
 v22:=Tryz.zeroValue24
 t25:=Tryz.underlying375
 a25:=Tryz.isAgg375
 z25:=Tryz.sizeOf375
 v25:=Tryz.zeroValue375
 t39:=Tryz.underlying29
 a39:=Tryz.isAgg29
 z39:=Tryz.sizeOf29
 v39:=Tryz.zeroValue29
 t45:=Tryz.underlying379
 a45:=Tryz.isAgg379
 z45:=Tryz.sizeOf379
 v45:=Tryz.zeroValue379
 t46:=Tryz.underlying380
 a46:=Tryz.isAgg380
 z46:=Tryz.sizeOf380
 v46:=Tryz.zeroValue380
 t50:=Tryz.underlying263
 a50:=Tryz.isAgg263
 z50:=Tryz.sizeOf263
 v50:=Tryz.zeroValue263
 t53:=Tryz.underlying386
 a53:=Tryz.isAgg386
 z53:=Tryz.sizeOf386
 v53:=Tryz.zeroValue386
 t55:=Tryz.underlying75
 a55:=Tryz.isAgg75
 z55:=Tryz.sizeOf75
 v55:=Tryz.zeroValue75
 t66:=Tryz.underlying405
 a66:=Tryz.isAgg405
 z66:=Tryz.sizeOf405
 v66:=Tryz.zeroValue405
 t70:=Tryz.underlying409
 a70:=Tryz.isAgg409
 z70:=Tryz.sizeOf409
 v70:=Tryz.zeroValue409
 t76:=Tryz.underlying475
 a76:=Tryz.isAgg475
 z76:=Tryz.sizeOf475
 v76:=Tryz.zeroValue475
 t77:=Tryz.underlying130
 a77:=Tryz.isAgg130
 z77:=Tryz.sizeOf130
 v77:=Tryz.zeroValue130}
def TQ:Go.Shelf.Ren:=⟨fun|41=>197|n=>n,fun|22=>32|23=>5|4=>4|n=>n,fun|n=>n⟩
theorem WX:Go.Proofs.SlLaysE0.n41 Tryz.prog TQ:={
 mixed:=by kernel_rfl
 f41:=⟨Tryz.f197.name,by decide,Tryz.func197.trans (congrArg some (by kernel_rfl))⟩
 t4:=Tryz.underlying4
 a4:=Tryz.isAgg4
 z4:=Tryz.sizeOf4
 v4:=Tryz.zeroValue4
 t22:=Tryz.underlying32
 a22:=Tryz.isAgg32
 z22:=Tryz.sizeOf32
 v22:=Tryz.zeroValue32}
def Ow:Go.Shelf.Ren:=⟨fun|106=>206|213=>280|265=>346|n=>n,fun|9=>9|3=>3|n=>n,fun|n=>n⟩
theorem YB:Go.Proofs.Lays.n106 Tryz.prog Ow:={
 mixed:=by kernel_rfl
 f106:=Tryz.func206.trans (congrArg some (by kernel_rfl))
 f213:=Tryz.func280.trans (congrArg some (by kernel_rfl))
 f265:=Tryz.func346.trans (congrArg some (by kernel_rfl))
 t3:=Tryz.underlying3
 a3:=Tryz.isAgg3
 z3:=Tryz.sizeOf3
 v3:=Tryz.zeroValue3
 t9:=Tryz.underlying9
 a9:=Tryz.isAgg9
 z9:=Tryz.sizeOf9
 v9:=Tryz.zeroValue9}
end
section
open Go Go.RowKit
theorem VI (p:Addr) (x s:Int) (older:List PanicEntry) (w:World) (hc:w.cell? p=some (.int .i64 x)) (hz:w.frozen? p=false):
  CallsD Tryz.prog 187 #[.pointer (some p)] (.panicking ({v:= .iface 347 (.int .i64 s),recovered:=false}::older)) w fun e u' w'=>
   e= .returned (.tuple #[])/\u'= .panicking ({v:= .iface 347 (.int .i64 s),recovered:=true}::older)/\w'=w.setCell p (.int .i64 s):=by
 refine callsD_of_wpS Tryz.func187 rfl fun c₀ cs hu=> ?_
 apply wpS_seq
 apply wpS_region
 simp [wpOpsS,go_sem,recoverD,hu,Tryz.ntmps187,Exit.thenS]
 refine wpS_of_wp ?_
 have hta:∀W:World,(Instr.typeAssert (.iface 347 (.int .i64 s)) 20 347 true).run Tryz.prog W= .ok (.tuple #[.int .i64 s,.bool true]) W:=fun W=>by kernel_rfl
 have HU:=AC hu
 clear hu
 rw [show (#[Value.pointer (some p)]++(Array.replicate 10 undef).setIfInBounds 3 (Value.iface 347 (Value.int IntKind.i64 s)))=#[Value.pointer (some p),undef,undef,undef,Value.iface 347 (Value.int IntKind.i64 s),undef,undef,undef,undef,undef,undef] from rfl]
 go_wp2
 cases c₀
 simp [bodyPostS,results,Tryz.results187]
theorem VJ (p:Addr) (w:World):
  CallsD Tryz.prog 187 #[.pointer (some p)] .returning w fun e u' w'=>e= .returned (.tuple #[])/\u'= .returning/\w'=w:=by
 refine callsD_of_wpS Tryz.func187 rfl fun c₀ cs hu=> ?_
 apply wpS_seq
 apply wpS_region
 simp [wpOpsS,go_sem,recoverD,hu,Tryz.ntmps187,Exit.thenS]
 refine wpS_of_wp ?_
 go_wp2
 cases c₀
 simp_all [bodyPostS,results,Tryz.results187]
theorem GP {A:Act} {d:Option Nat} {v:Value}:(A.put d v).defers=A.defers:=by cases d<;>rfl
theorem Gi {P:Program} {ops:Array Oper} {o:Oper} {a:Act} {w:World} {K:Act->World->Prop} {Q:Exit->Act->World->Prop} {E:Prop} (hgd:o.guard=none) (f:Nat) (args:Array Operand) (ts:Array TypeId)
  (ho:o.op= .call {callee:= .value (.func f),args:=args,argTypes:=ts}) (vs:Array Value) (hv:args.map a.eval=vs)
  (he:∀args w,(callFunc f args).run P w= .ok (.enter f args) w) (c:List PanicEntry) (post:Ending->World->Prop) (hp:∀e w',post e w'->e= .panicked c) (hc:Calls P f vs w post)
  (h:∀w',post (.panicked c) w'->Q (.panic c) a w'):
  if Region.wanted o (yielded ops a.tmps)=true then Oper.wp P o a w K Q else E:=by
 have hw:Region.wanted o (yielded ops a.tmps)=true:=by simp [Region.wanted,hgd]
 rw [if_pos hw]
 unfold Oper.wp
 simp [execOp,ho,resolve,invoke,hv,Result.andThen,go_sem,he]
 refine hc.mono ?_
 intro e w' hpe
 obtain rfl:=hp e w' hpe
 have:=h w' hpe
 simpa [go_sem] using this
theorem Fa.cell {w w':World} (h:Fa w w') (a:Addr):w'.cell? a=w.cell? a:=by
 unfold World.cell?
 rw [h.1]
structure IG (w:World) (pb co:Nat) (f g:Nat->Int) (PC U V op:Int) (a b:Nat) (im:Int):Prop extends Parts2 w pb co PC U V op a b im where
 lo:∀W x (n:Nat),Ad w W op a b im->n<=8->0<=x/\x<=18446744073709551615->Calls Tryz.prog 327 #[pq pb co,.int .u64 x,.int .i64 n] W fun e w'=>Ad w w' op a b im/\(Ae f 4 x n=true->e= .returned (.int .u64 (AW (bytesOf g x n) 0 n)))/\(Ae f 4 x n=false->e= .panicked (DB 131))
 so:∀W x (n:Nat) y,Ad w W op a b im->n<=8->0<=x/\x<=18446744073709551615->Calls Tryz.prog 329 #[pq pb co,.int .u64 x,.int .i64 n,.int .u64 y] W fun e w'=>(Ae f 2 x n=true->e= .returned (.tuple #[])/\JT w w' op a b im/\w'.cell? (pK pb co)=some (.int .u64 PC)/\∃W2,Below w.heap.size w W2/\Fa (CX W2 pb (co+17) x ((A8 y).take n) n) w')/\(Ae f 2 x n=false->e= .panicked (DB 131)/\Below w.heap.size w w')
theorem Pw (w:World) (pb so:Nat) (x:Int) (L:List Int) (o:Nat) (h:o<=so):∀j,(CX w pb so x L j).cell? (pK pb o)=w.cell? (pK pb o)
 |0=>rfl
 |j+1=>by
  show ((CX w pb so x L j).setCell _ _).cell? _=_
  have e:Eh so (IntKind.u64.wrap (x+(j:Int)))≠o:=by unfold Eh;omega
  rw [z7 _ _ _ _ (fun q=>e (by injection q))]
  exact Pw w pb so x L o h j
theorem G9.parts3 {w:World} {pb co:Nat} {PC:Int} {R:List Int} {f g:Nat->Int} (h:G9 w pb co PC R) (hs:Fb w pb (co+17) f g) (op:Int) {a b:Nat} {im:Int} (ha:a<16) (hb:b<16) (hi: -32768<=im/\im<=32767) (h0:0<=R.getD b 0):IG w pb co f g PC (R.getD a 0) (R.getD b 0) op a b im where
 toParts2:=h.parts2 op ha hb hi h0
 lo W x n hW hn hx:=(aS pb co f g x n W (hs.below hW.below) hn hx).mono (fun e w' he=>⟨hW.next he.1,he.2⟩)
 so W x n y hW hn hx:=(YK pb co f g x n y W (hs.below hW.below) hn hx).mono (fun e w' he=>⟨fun hm=>by
  obtain ⟨h1,W2,h2,h3⟩:=he.1 hm
  have hW2:=hW.next h2
  have hl:=h.lt
  have hc:=hW2.c
  have hne:some w.heap.size≠some pb:=by simp;omega
  have hg:=Gh W2 pb (co+17) x ((A8 y).take n) n
  refine ⟨h1,⟨?_,?_,?_,?_⟩,?_,W2,hW2.below,h3⟩
  ·rw [h3.cell];exact hg.cell hc.1 hne
  ·rw [h3.cell];exact hg.cell hc.2.1 hne
  ·rw [h3.cell];exact hg.cell hc.2.2.1 hne
  ·rw [h3.cell];exact hg.cell hc.2.2.2 hne
  ·rw [h3.cell,Pw _ _ _ _ _ _ (by omega)];exact (h.below hW2.below).pc,fun hm=>⟨(he.2 hm).1,hW.below.trans ((he.2 hm).2.mono hW.below.size)⟩⟩)
theorem I4 {P:Program} {fn:Func} {t t':Array Value} {R:Ending->World->Prop} (h:results fn t=results fn t'):∀(ds:List Deferred) (u:FrameMode) (w:World),Leaves P fn t R ds u w->Leaves P fn t' R ds u w
 |[],.returning,w,hl=>by
  unfold Leaves at hl ⊢
  rw [<-h];exact hl
 |[],.panicking chain,w,hl=>hl
 |[],.run,w,hl=>hl
 |d::ds,u,w,hl=>by
  obtain ⟨h1,fv,cap,f,args,h2,h3,h4⟩:=hl
  refine ⟨h1,fv,cap,f,args,h2,h3,h4.mono ?_⟩
  intro e u' w' he
  cases e with
  |returned v=>exact I4 h ds _ _ he
  |panicked c=>exact I4 h ds _ _ he
  |outgrown=>exact he
theorem Kk {R:Ending->World->Prop} {d:Nat} {v:Value} (h2:d≠2) (h3:d≠3) {c:List PanicEntry} {a:Act} {w:World} (h:bodyPostD Tryz.prog Tryz.f154 R (.panic c) (a.put (some d) v) w):bodyPostD Tryz.prog Tryz.f154 R (.panic c) a w:=by
 refine I4 ?_ _ _ _ h
 simp [results,Tryz.results154,Act.put,Array.getElem?_setIfInBounds_ne h2,Array.getElem?_setIfInBounds_ne h3]
theorem TX {R:Ending->World->Prop} {H:Nat} {w:World} {A:Act} (s:Int) (h2:A.eval (.tmp 2)= .bool false) (h3:A.eval (.tmp 3)= pq H 0) (hd:A.defers=[{target:= .fn (.func 187) #[pq H 0],args:=#[]}]) (hr:AG w H 3 [.int .i64 0]) (hR:R (.returned (.tuple #[.bool false,.int .i64 s])) (w.setCell (pK H 0) (.int .i64 s))):bodyPostD Tryz.prog Tryz.f154 R (.panic (DB s)) A w:=by
 show Leaves Tryz.prog Tryz.f154 A.tmps R A.defers (.panicking (DB s)) w
 rw [hd]
 have c0:w.cell? (pK H 0)=some (.int .i64 0):=hr.cell rfl
 have c1:=z8 w (pK H 0) (.int .i64 s) c0
 have k2:A.tmps.getD 2 undef= .bool false:=h2
 have k3:A.tmps.getD 3 undef= pq H 0:=h3
 refine leaves_cons (f:=187) (args:=#[pq H 0]) (by simp) (by simp [go_sem]) ?_
 refine (VI (pK H 0) 0 s [] w c0 (hr.frozen 0)).mono ?_
 rintro e u' w3 ⟨rfl,rfl,rfl⟩
 refine ⟨.tuple #[.bool false,.int .i64 s],?_,hR⟩
 simp [results,Tryz.results154,go_sem] at k2 k3 ⊢
 simp [k2,k3,c1,go_sem]
theorem aY {R:Ending->World->Prop} {H:Nat} {w:World} {A:Act} (t:Bool) (h2:A.eval (.tmp 2)= .bool t) (h3:A.eval (.tmp 3)= pq H 0) (hd:A.defers=[{target:= .fn (.func 187) #[pq H 0],args:=#[]}]) (c0:w.cell? (pK H 0)=some (.int .i64 0)) (hR:R (.returned (.tuple #[.bool t,.int .i64 0])) w):bodyPostD Tryz.prog Tryz.f154 R .ret A w:=by
 show Leaves Tryz.prog Tryz.f154 A.tmps R A.defers .returning w
 rw [hd]
 have k2:A.tmps.getD 2 undef= .bool t:=h2
 have k3:A.tmps.getD 3 undef= pq H 0:=h3
 refine leaves_cons (f:=187) (args:=#[pq H 0]) (by simp) (by simp [go_sem]) ?_
 refine (VJ (pK H 0) w).mono ?_
 rintro e u' w3 ⟨rfl,rfl,rfl⟩
 refine ⟨.tuple #[.bool t,.int .i64 0],?_,hR⟩
 simp [results,Tryz.results154,go_sem] at k2 k3 ⊢
 simp [k2,k3,c0,go_sem]
theorem Q8 (pb co:Nat) (s:Int) (w:World) (hf:∀W,Below w.heap.size w W->Calls Tryz.prog 188 #[pq pb co] W fun e w'=>e= .panicked (DB s)/\Below W.heap.size W w'):
  Calls Tryz.prog 154 #[pq pb co] w fun e w'=>e= .returned (.tuple #[.bool false,.int .i64 s])/\Below w.heap.size w w':=by
 have hmf:∀(fn:Fn) (first cap:Array Value) (w:World),(Instr.makeFunc fn first cap).run Tryz.prog w= .ok (.func fn first cap) w:=fun _ _ _ _=>rfl
 obtain ⟨W1,hW1⟩:∃W1,W1=w.alloc (Obj.cells #[.int .i64 0] 3):=⟨_,rfl⟩
 have hb1:Below w.heap.size w W1:=by rw [hW1];exact (zw _ _).alloc (zx _) _
 have hr1:AG W1 w.heap.size 3 [.int .i64 0]:=by rw [hW1];exact AG.new w 3 _
 have HF:=AC (hf W1 hb1)
 have HB1:=AC hb1
 have HR1:=AC hr1
 have HW1:=AC hW1
 clear hf hb1 hr1 hW1
 go_enter_defers Tryz.func154,Tryz.ntmps154
 go_wp2_with fail
 rw [<-AB HW1]
 refine (AB HF).mono ?_
 rintro e w2 ⟨rfl,hb2⟩
 have hr2:=(AB HR1).below hb2 (AB HR1).lt
 have HB2:=AC ((AB HB1).trans (hb2.mono (AB HB1).size))
 have HR2:=AC hr2
 clear hb2 hr2 HF HR1
 exact TX s rfl rfl rfl (AB HR2) ⟨rfl,(AB HB2).setCell (zx _) _⟩
theorem ao {w:World} {pb co:Nat} {PC U V op:Int} {a b:Nat} {im:Int} (K:Parts w pb co PC U V op a b im):Calls Tryz.prog 252 #[pq pb co,.agg #[.int .u8 op,.int .i64 (a:Int),.int .i64 (b:Int),.int .i16 im]] w (C4 w pb co PC a (if V=0 then 18446744073709551615 else IntKind.u64.wrap (U.tdiv V))):=by
 by_cases hv:V=0
 ·rw [if_pos hv]
  subst hv
  have HK:=AC K
  have HB:=AC (Ad.new w op a b im)
  have BX:=AC (Ad.new w op a b im).c
  clear K
  go_enter Tryz.func252,Tryz.ntmps252
  go_wp2_with (first|(go_at_call 323;refine ((AB HK).rb _ (AB HB)).mono ?_;rintro e wn ⟨rfl,hb⟩;clear HB BX;have BX:=AC hb.c;have HB:=AC hb;obtain ⟨x0,x1,x2,x3⟩:=hb.c;clear hb)|(go_at_call 321;refine ((AB HK).be _ _ (AB HB)).mono ?_;rintro e wn ⟨rfl,hb,hc⟩;clear BX;have BX:=AC hb;have HC:=AC hc;clear hb hc))
  go_ret
  exact ⟨rfl,AB HC⟩
 ·rw [if_neg hv]
  have hq:(V==0)=false:=by simpa using hv
  have HK:=AC K
  have HB:=AC (Ad.new w op a b im)
  have BX:=AC (Ad.new w op a b im).c
  clear K
  go_enter Tryz.func252,Tryz.ntmps252
  go_upto_region 3 with (first|(go_at_call 323;refine ((AB HK).rb _ (AB HB)).mono ?_;rintro e wn ⟨rfl,hb⟩;clear HB BX;have BX:=AC hb.c;have HB:=AC hb;clear hb))
  have BX:=AC (AB HB).drew.c
  have HB:=AC (AB HB).drew
  go_region_held (fun W=>W.cell? (pK w.heap.size 0)=some (.int .u8 op)/\W.cell? (pK w.heap.size 1)=some (.int .i64 (a:Int))/\W.cell? (pK w.heap.size 2)=some (.int .i64 (b:Int))/\W.cell? (pK w.heap.size 3)=some (.int .i16 im)) (exact AB BX) (first|(go_at_call 324;refine ((AB HK).ra _ (AB HB)).mono ?_;rintro e wn ⟨rfl,hb⟩;clear HB BX;have BX:=AC hb.c;have HB:=AC hb;clear hb)|(go_at_call 323;refine ((AB HK).rb _ (AB HB)).mono ?_;rintro e wn ⟨rfl,hb⟩;clear HB BX;have BX:=AC hb.c;have HB:=AC hb;clear hb)|(go_at_call 321;refine ((AB HK).be _ _ (AB HB)).mono ?_;rintro e wn ⟨rfl,hb,hc⟩;clear BX;have BX:=AC hb;have HC:=AC hc;clear hb hc))
  go_wp2
  go_ret
  exact ⟨rfl,AB HC⟩
theorem ap {w:World} {pb co:Nat} {PC U V op:Int} {a b:Nat} {im:Int} (K:Parts w pb co PC U V op a b im) (hv:¬V=0):Calls Tryz.prog 253 #[pq pb co,.agg #[.int .u8 op,.int .i64 (a:Int),.int .i64 (b:Int),.int .i16 im]] w (C4 w pb co PC a (U.tmod V)):=by
 have hq:(V==0)=false:=by simpa using hv
 have HK:=AC K
 have HB:=AC (Ad.new w op a b im)
 have BX:=AC (Ad.new w op a b im).c
 clear K
 go_enter Tryz.func253,Tryz.ntmps253
 go_upto_region 3 with (first|(go_at_call 323;refine ((AB HK).rb _ (AB HB)).mono ?_;rintro e wn ⟨rfl,hb⟩;clear HB BX;have BX:=AC hb.c;have HB:=AC hb;clear hb))
 have BX:=AC (AB HB).drew.c
 have HB:=AC (AB HB).drew
 go_region_held (fun W=>W.cell? (pK w.heap.size 0)=some (.int .u8 op)/\W.cell? (pK w.heap.size 1)=some (.int .i64 (a:Int))/\W.cell? (pK w.heap.size 2)=some (.int .i64 (b:Int))/\W.cell? (pK w.heap.size 3)=some (.int .i16 im)) (exact AB BX) (first|(go_at_call 324;refine ((AB HK).ra _ (AB HB)).mono ?_;rintro e wn ⟨rfl,hb⟩;clear HB BX;have BX:=AC hb.c;have HB:=AC hb;clear hb)|(go_at_call 323;refine ((AB HK).rb _ (AB HB)).mono ?_;rintro e wn ⟨rfl,hb⟩;clear HB BX;have BX:=AC hb.c;have HB:=AC hb;clear hb)|(go_at_call 321;refine ((AB HK).be _ _ (AB HB)).mono ?_;rintro e wn ⟨rfl,hb,hc⟩;clear BX;have BX:=AC hb;have HC:=AC hc;clear hb hc))
 go_wp2
 go_ret
 exact ⟨rfl,AB HC⟩
end
section
open Go Go.RowKit Go.Maps
def C5 (p:PK) (s:ByteArray):Int:=if (AN p.xs s).e≠0 then (AN p.xs s).e else if (AN p.xs s).n=0 then 9 else if CI p.xs (AN p.xs s).n=true then 11 else 0
def Mb (c:Int):Ending:= .returned (.tuple #[.pointer none,.iface 47 (.int .i64 c)])
def N6 (p:PK) (NB:List Nat) (s:ByteArray) (w:World) (e:Ending) (w':World):Prop:=
 Below w.heap.size w w'/\(C5 p s≠0/\e=Mb (C5 p s)\/C5 p s=0/\∃(i:Nat) (x:Ino) (c:Nat),p.xs[i]? =some x/\x.id=(AN p.xs s).n/\NB[i]? =some c/\x.dir=false/\(AN p.xs s).e=0/\(AN p.xs s).n≠0/\e= .returned (.tuple #[pq c 0,.nilIface]))
theorem VY (p:PK) (B tb ab am:Nat) (used:Int) (NB MB:List Nat) (V:List Value) (s:ByteArray) (mm:Int) (w:World) (hr:Ba w B tb ab am p.li p.lb used p.xs NB MB V) (hi:Bo p) (hlen:p.xs.length<=900000) (hli:0<=p.li/\p.li<=1000000) (hu:0<=used/\used<=p.lb) (hlb:p.lb<=1000000) (hs:s.size<=maxLen) (hm:w.cell? (pK 3 0)=some (.int .i64 mm)) (hml:3<w.heap.size):
  Calls Tryz.prog 70 #[pq tb 0,.string s] w (N6 p NB s w):=by
 have hne:p.xs≠[]:=by obtain ⟨x,hx,_⟩:=hi.root;intro e;rw [e] at hx;cases hx
 have HFW:=AC (Fy B tb ab am p.li p.lb used p.xs NB MB V s mm w hr (fun _=>hne) (fun x hx=>(hi.ids x hx).1) hi.incr hs hm hml)
 have HR:=AC hr
 have HI:=AC hi
 have HLN:=AC (show p.xs.length<=900000/\(0<=p.li/\p.li<=1000000)/\(0<=used/\used<=p.lb)/\p.lb<=1000000 from ⟨hlen,hli,hu,hlb⟩)
 clear hr hi hlen hli hu hlb hm hml hne hs
 go_enter Tryz.func70,Tryz.ntmps70
 go_wp2_with fail
 refine (AB HFW).mono ?_
 rintro e w1 ⟨hb1,(⟨he,rfl⟩|⟨he,b,name,hpl,rfl⟩)⟩
 ·have HP:=AC (show N6 p NB s w (Mb (AN p.xs s).e) (w1.alloc (Obj.cells #[.pointer none,.string ByteArray.empty,.string ByteArray.empty] 178)) from by
   have hc:C5 p s=(AN p.xs s).e:=by unfold C5;rw [if_pos he]
   exact ⟨hb1.alloc hb1.size _,.inl ⟨by rw [hc];exact he,by rw [hc]⟩⟩)
  clear hb1 he HFW
  unfold Iq
  go_wp2
  go_ret2
  exact AB HP
 ·obtain ⟨W2,hW2⟩:∃W2,W2=w1.alloc (Obj.cells #[pq b 0,.string name,.string s] 178):=⟨_,rfl⟩
  have hb2:Below w.heap.size w W2:=by rw [hW2];exact hb1.alloc hb1.size _
  have hp2:AG W2 w1.heap.size 178 [pq b 0,.string name,.string s]:=by rw [hW2];exact AG.new w1 178 _
  have hr2:=(AB HR).below hb2
  obtain ⟨m,k,ff,dvs,hdn,hd2,hdd,hkk,hns,hBm,hcase⟩:=S5 hr2 (AB HI) he hpl
  obtain ⟨dv,hdv,hcd⟩:∃dv:Bool,(∀c,ff name=some c->∃v0 vs,AG W2 c 258 (v0:: .bool dv::vs))/\(C5 p s=Su (ff name).isSome false (decide (p.li<=(p.xs.length:Int))) dv/\(C5 p s=0->∃(i:Nat) (x:Ino) (c:Nat),p.xs[i]? =some x/\x.id=(AN p.xs s).n/\NB[i]? =some c/\x.dir=false/\(AN p.xs s).e=0/\(AN p.xs s).n≠0/\ff name=some c)):=by
   rcases hcase with ⟨hn,i,x,c,y1,y2,y3,y4⟩|⟨hn,y,_⟩
   ·obtain ⟨mi,hmi⟩:∃mi,MB[i]? =some mi:=⟨_,zz (by rw [hr2.len.2];exact (zy.1 y1).1)⟩
    obtain ⟨qn,v1,mv1,z1,_⟩:=hr2.node i x c mi y1 y3 hmi
    have hdx:CI p.xs (AN p.xs s).n=x.dir:=by rw [<-y2];exact Fh (AB HI).incr y1
    have hfc:C5 p s=if x.dir=true then 11 else 0:=by unfold C5;rw [if_neg (by simpa using he),if_neg hn,hdx]
    refine ⟨x.dir,fun c' hc'=>by rw [y4] at hc';obtain rfl:=zr hc';exact ⟨_,_,z1⟩,by rw [hfc,y4];rfl,fun q=>⟨i,x,c,y1,y2,y3,?_,he,hn,y4⟩⟩
    rw [hfc] at q
    cases hx:x.dir with
    |true=>rw [hx] at q;exact absurd q (by decide)
    |false=>rfl
   ·have hfc:C5 p s=9:=by unfold C5;rw [if_neg (by simpa using he),if_pos hn]
    exact ⟨false,(fun c hc=>by rw [y] at hc;cases hc),by rw [hfc,y];rfl,fun q=>by rw [hfc] at q;exact absurd q (by decide)⟩
  have hl:=AB HLN
  have HMO:=AC (Jb tb ab b m k p.xs.length p.li used p.lb ff name s false dv dvs W2 hr2.tree ⟨by omega,by omega⟩ hl.2.1 hl.2.2.1 hl.2.2.2 hdn hd2 hdd (by omega) hdv)
  rw [<-hcd.1] at HMO
  have HW2:=AC hW2
  have HB2:=AC hb2
  have HP2:=AC hp2
  have HDN:=AC (And.intro hdn (And.intro hd2 (And.intro hdd hns)))
  have HCD:=AC hcd.2
  obtain ⟨PB,hPB⟩:∃PB,PB=w1.heap.size:=⟨_,rfl⟩
  obtain ⟨mc,hmc⟩:∃mc,mc=C5 p s:=⟨_,rfl⟩
  rw [<-hmc] at HMO HCD
  clear hb1 hW2 hb2 hp2 hr2 hdn hd2 hdd hkk hns hBm hcase he hpl hl hdv hcd HFW HR HI HLN
  unfold KZ
  go_upto_region 4 with fail
  rw [<-AB HW2]
  rw [<-hPB] at HP2 ⊢
  clear HW2 hPB
  have c0:W2.cell? (pK PB 0)=some (pq b 0):=(AB HP2).cell rfl
  have c1:W2.cell? (pK PB 1)=some (.string name):=(AB HP2).cell rfl
  have c2:W2.cell? (pK PB 2)=some (.string s):=(AB HP2).cell rfl
  have HMC:=AC hmc
  clear hmc
  go_wp2_with fail
  refine (AB HMO).mono ?_
  rintro e w3 ⟨rfl,hb3⟩
  have HB3:=AC ((AB HB2).trans (hb3.mono (AB HB2).size))
  have HP3:=AC ((AB HP2).below hb3 (AB HP2).lt)
  have HB23:=AC hb3
  clear hb3 HMO c0 c1 c2
  by_cases hz:mc=0
  ·obtain ⟨i,x,c,y1,y2,y3,y4,y5,y6,y7⟩:=AB HCD hz
   subst hz
   have hd:=AB HDN
   have HND:=AC (Hz b m k name s ff w3 (by unfold maxLen;omega) ((hd.1.below (AB HB23) hd.1.lt).cell hd.2.1) (hd.2.2.1.kept (A7 (AB HB23)) (by simp)))
   have HY:=AC (show C5 p s=0/\∃(i:Nat) (x:Ino),p.xs[i]? =some x/\x.id=(AN p.xs s).n/\NB[i]? =some c/\x.dir=false/\(AN p.xs s).e=0/\(AN p.xs s).n≠0 from ⟨(AB HMC).symm,i,x,y1,y2,y3,y4,y5,y6⟩)
   rw [y7] at HND
   have c0:w3.cell? (pK PB 0)=some (pq b 0):=(AB HP3).cell rfl
   have c1:w3.cell? (pK PB 1)=some (.string name):=(AB HP3).cell rfl
   have c2:w3.cell? (pK PB 2)=some (.string s):=(AB HP3).cell rfl
   clear y1 y2 y3 y4 y5 y6 y7 hd HMC HCD HDN
   rw [show Jw 0= .returned .nilIface from rfl]
   go_wp2_with fail
   refine (AB HND).mono ?_
   rintro e w4 ⟨rfl,hb4⟩
   have HB4:=AC ((AB HB3).trans (hb4.mono (AB HB3).size))
   clear hb4 HND c0 c1 c2
   unfold CG
   go_wp2
   go_ret2
   obtain ⟨q1,i,x,q2,q3,q4,q5,q6,q7⟩:=AB HY
   exact ⟨AB HB4,.inr ⟨q1,i,x,c,q2,q3,q4,q5,q6,q7,rfl⟩⟩
  ·have HP:=AC (show N6 p NB s w (Mb mc) w3 from ⟨AB HB3,.inl ⟨by rw [<-AB HMC];exact hz,by rw [<-AB HMC]⟩⟩)
   rw [show Jw mc=Br mc from by unfold Jw;rw [if_neg hz]]
   clear hz HMC HCD
   unfold Br
   go_wp2
   go_ret2
   exact AB HP
def Bm (p:PK) (j:Nat):AV:=match p.xs[j]? with|some x=>⟨Ci p.xs x.id,x.dir,p.cs.getD j []⟩|none=>⟨ByteArray.empty,false,[]⟩
theorem LL {p:PK} {j:Nat} {x:Ino} {c:List Int} (hx:p.xs[j]? =some x) (hc:p.cs[j]? =some c):Bm p j=⟨Ci p.xs x.id,x.dir,c⟩:=by
 unfold Bm
 rw [hx,zl,hc]
 rfl
def D8 (p:PK) (e:Nat×BN):Value:= .slice e.2.a (Bm p e.1).bytes.length e.2.c
def CY (p:PK) (e:Nat×BN):List Value:=[.string (Bm p e.1).path,.bool (Bm p e.1).dir,D8 p e]
def BT (p:PK) (EL:List (Nat×BN)):List Value:=EL.flatMap (CY p)
theorem MS (p:PK) (A B:List (Nat×BN)):BT p (A++B)=BT p A++BT p B:=by simp [BT]
theorem Fq (p:PK) (EL:List (Nat×BN)):(BT p EL).length=EL.length*3:=by
 induction EL with
 |nil=>rfl
 |cons a r ih=>
  have e:BT p (a::r)=CY p a++BT p r:=by simp [BT]
  rw [e,zn,ih]
  simp [CY]
  omega
theorem I6 (p:PK) (e:Nat×BN):∀v∈CY p e,v.oneCell'=true:=by
 intro v hv
 simp only [CY,D8,List.mem_cons,List.not_mem_nil,or_false] at hv
 rcases hv with rfl|rfl|rfl<;>rfl
theorem Rb (p:PK) (EL:List (Nat×BN)):∀v∈BT p EL,v.oneCell'=true:=by
 intro v hv
 obtain ⟨e,_,he⟩:=List.mem_flatMap.1 hv
 exact I6 p e v he
def DT (e:Nat×BN):Option Nat:=e.2.a.map Addr.block
theorem Gk (p:PK) (e:Nat×BN):(D8 p e).ownBlock=DT e:=by
 unfold D8 DT Value.ownBlock
 cases e.2.a<;>rfl
structure GU (p:PK) (w:World) (B:Nat) (v:Value) (EL:List (Nat×BN)):Prop where
 row:w.ownsRow B 46 3 v EL.length (BT p EL)
 each:∀e∈EL,w.ownsRow B 5 1 (D8 p e) (Bm p e.1).bytes.length (AJ (Bm p e.1).bytes)
 apart:EL.Pairwise (fun e f=>DT e≠none->DT e≠DT f)
 own:∀e∈EL,DT e≠none->v.ownBlock≠DT e
 nil:EL=[]->v= .slice none 0 0
theorem GU.below {p:PK} {w w':World} {B:Nat} {v:Value} {EL:List (Nat×BN)} (h:GU p w B v EL) (hb:Below w.heap.size w w'):GU p w' B v EL:=
 ⟨BO h.row (AC hb),fun e he=>BO (h.each e he) (AC hb),h.apart,h.own,h.nil⟩
theorem GU.base {p:PK} {w:World} {B B':Nat} {v:Value} {EL:List (Nat×BN)} (h:GU p w B v EL) (hB:B'<=B):GU p w B' v EL:=
 ⟨EJ h.row hB,fun e he=>EJ (h.each e he) hB,h.apart,h.own,h.nil⟩
theorem GU.empty (p:PK) (w:World) (B:Nat):GU p w B (.slice none 0 0) []:=⟨World.ownsRow_nil _ _ _ _,fun e he=>absurd he (by simp),List.Pairwise.nil,fun e he=>absurd he (by simp),fun _=>rfl⟩
theorem GU.blk {p:PK} {w:World} {B:Nat} {v:Value} {EL:List (Nat×BN)} (h:GU p w B v EL) {e:Nat×BN} (he:e∈EL) {k:Nat} (hk:DT e=some k):B<=k/\k<w.heap.size:=(h.each e he).lt k (by rw [Gk];exact hk)
theorem GU.app {p:PK} {w w':World} {B B2 g cap:Nat} {v:Value} {EL EL2:List (Nat×BN)} (h:GU p w B v EL) (h2:∀e∈EL2,w.ownsRow B2 5 1 (D8 p e) (Bm p e.1).bytes.length (AJ (Bm p e.1).bytes)) (ha2:EL2.Pairwise (fun e f=>DT e≠none->DT e≠DT f)) (hB:B<=B2)
  (hv:∀k,v.ownBlock=some k->k<B2) (hE:∀e∈EL,∀k,DT e=some k->k<B2) (hne:EL2≠[])
  (hown:w'.ownsRow B 46 3 (.slice (some (pK g 0)) (EL.length+EL2.length) cap) (EL.length+EL2.length) (BT p EL++BT p EL2)) (hg:w.grownBy w' v.ownBlock) (hat:v.ownBlock=some g\/w.heap.size<=g):
  GU p w' B (.slice (some (pK g 0)) (EL.length+EL2.length) cap) (EL++EL2):=by
 have hlt2:∀e∈EL2,∀k,DT e=some k->B2<=k/\k<w.heap.size:=fun e he k hk=>(h2 e he).lt k (by rw [Gk];exact hk)
 refine ⟨?_,fun e he=> ?_,List.pairwise_append.2 ⟨h.apart,ha2,fun e he f hf hn=> ?_⟩,fun e he hn=> ?_,fun q=>absurd (List.append_eq_nil_iff.1 q).2 hne⟩
 ·rw [zn,MS];exact hown
 ·rcases List.mem_append.1 he with he|he
  ·refine (h.each e he).kept hg ?_
   by_cases hb:DT e=none
   ·left
    rw [Gk];exact hb
   ·right
    rw [Gk]
    exact fun q=>h.own e he hb q.symm
  ·refine EJ ((h2 e he).kept hg ?_) hB
   by_cases hb:DT e=none
   ·left
    rw [Gk];exact hb
   ·right
    rw [Gk]
    intro q
    obtain ⟨k,hk⟩:=Option.ne_none_iff_exists'.1 hb
    have h1:=hlt2 e he k hk
    have h3:=hv k (by rw [<-q,hk])
    omega
 ·obtain ⟨k,hk⟩:=Option.ne_none_iff_exists'.1 hn
  intro q
  have h1:=hE e he k hk
  have h3:=hlt2 f hf k (by rw [<-q,hk])
  omega
 ·show some g≠DT e
  obtain ⟨k,hk⟩:=Option.ne_none_iff_exists'.1 hn
  intro q
  rw [hk] at q
  have e1:g=k:=by simpa using q
  subst e1
  rcases List.mem_append.1 he with he|he
  ·rcases hat with q|q
   ·exact h.own e he hn (by rw [q,hk])
   ·have:=(h.blk he hk).2;omega
  ·have h1:=hlt2 e he g hk
   rcases hat with q|q
   ·have:=hv g q;omega
   ·omega
theorem JR:∀(l m:List Nat),l.Nodup->(∀x∈l,x∈m)->l.length<=m.length
 |[],m,_,_=>by simp
 |a::r,m,hn,hs=>by
  obtain ⟨h1,h2⟩:=List.nodup_cons.1 hn
  have ha:a∈m:=hs a (by simp)
  have:=JR r (m.erase a) h2 (fun x hx=>(List.mem_erase_of_ne (fun (e:x=a)=>h1 (by rw [<-e];exact hx))).2 (hs x (by simp [hx])))
  rw [List.length_erase_of_mem ha] at this
  have:0<m.length:=List.length_pos_of_mem ha
  simp
  omega
theorem fO:(Tryz.prog.info? 5).map (fun i=>(i.zero,i.size,i.bytes))=some (some (.int .u8 0),1,1):=by kernel_rfl
theorem Tt {B:Nat} {v:Value} {c:List Int} (w:World) (hv:FW w B v c) (hl:c.length<=1000000):Calls Tryz.prog 197 #[v] w fun e w'=>∃a k,e= .returned (.slice a c.length k)/\w'.ownsRow w.heap.size 5 1 (.slice a c.length k) c.length (AJ c)/\Below w.heap.size w w':=by
 rcases hv with ⟨rfl,rfl⟩|⟨R,cp,T,rfl,hR,hcp,_,_⟩
 ·refine (AnyE.slices_Clone_nil WX 0 0 w).mono ?_
  rintro e w' ⟨rfl,rfl⟩
  exact ⟨none,0,rfl,World.ownsRow_nil _ _ _ _,zw _ _⟩
 ·obtain ⟨i,hi,hz0,hz1,hz2⟩:=info_parts fO
  refine (AnyE.slices_Clone WX i (.int .u8 0) 1 1 hi hz0 hz1 hz2 rfl (by decide) Tryz.sizeOf5 R 0 c.length cp (AJ c) w (by rw [AM];omega) (by unfold maxLen;omega) (by omega) (fun j u hj=> ?_) (Dj c)).mono ?_
  ·rw [zq]
   refine hR.cell ?_
   rw [Fo,zp (zy.1 hj).1]
   exact hj
  ·rintro e w' ⟨v',rfl,ho,hn,hb⟩
   have ho:w'.ownsRow w.heap.size 5 1 v' c.length (AJ c):=ho
   rcases ho.2 with ⟨rfl,h0⟩|⟨g,cap,cur,hv',_⟩
   ·exact absurd rfl hn
   ·subst hv'
    exact ⟨_,_,rfl,ho,hb⟩
end
end Go.Proofs.YtdchgbmliojoiaaGreatDoor
