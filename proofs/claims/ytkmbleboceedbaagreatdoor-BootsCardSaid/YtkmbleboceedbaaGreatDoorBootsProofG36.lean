import Derived.Shelf.SlIterI.Nil
import Derived.Shelf.SortM.Plain
import Derived.Shelf.SortM.SortNone
import Derived.Shelf.SlSortCmp.SmallK
import Derived.Shelf.SlicesE.Clone
import Derived.Shelf.Small.Strs
import Derived.Test.YtkmbleboceedbaaGreatDoorBootsProofG01
import Derived.Test.YtkmbleboceedbaaGreatDoorBootsProofG31
import Derived.Test.YtkmbleboceedbaaGreatDoorBootsProofG35
import Derived.Test.YtkmbleboceedbaaGreatDoorBootsProofG34
import Derived.Test.YtkmbleboceedbaaGreatDoorBootsProofG18
/- The shelf's layings at this seat, in plain words. Written by layker.sh: the numbers are one seat's own. -/
namespace Go.Proofs.YtkmbleboceedbaaGreatDoor
open Go.Shelf
def keysL_ren : Go.Shelf.Ren := ⟨fun | 7 => 83 | 10 => 109 | n => n, fun | 23 => 119 | 26 => 3 | 3 => 130 | 28 => 221 | 0 => 0 | 27 => 220 | 33 => 254 | 4 => 4 | n => n, fun | n => n⟩
theorem keysL : Go.Proofs.SlLaysZI.n7 Tryz.prog keysL_ren := {
  mixed := by kernel_rfl
  f7 := ⟨Tryz.f83.name, by decide, Tryz.func83.trans (congrArg some (by kernel_rfl))⟩
  f10 := ⟨Tryz.f109.name, by decide, Tryz.func109.trans (congrArg some (by kernel_rfl))⟩
  t0 := Tryz.underlying0
  a0 := Tryz.isAgg0
  z0 := Tryz.sizeOf0
  v0 := Tryz.zeroValue0
  t4 := Tryz.underlying4
  a4 := Tryz.isAgg4
  z4 := Tryz.sizeOf4
  v4 := Tryz.zeroValue4
  t23 := Tryz.underlying119
  a23 := Tryz.isAgg119
  z23 := Tryz.sizeOf119
  v23 := Tryz.zeroValue119
  t26 := Tryz.underlying3
  a26 := Tryz.isAgg3
  z26 := Tryz.sizeOf3
  v26 := Tryz.zeroValue3
  t27 := Tryz.underlying220
  a27 := Tryz.isAgg220
  z27 := Tryz.sizeOf220
  v27 := Tryz.zeroValue220
  t28 := Tryz.underlying221
  a28 := Tryz.isAgg221
  z28 := Tryz.sizeOf221
  v28 := Tryz.zeroValue221
  t33 := Tryz.underlying254
  a33 := Tryz.isAgg254
  z33 := Tryz.sizeOf254
  v33 := Tryz.zeroValue254 }
def sortedL_ren : Go.Shelf.Ren := ⟨fun | 6 => 82 | 8 => 107 | 9 => 108 | 11 => 123 | 13 => 112 | 12 => 124 | 23 => 134 | 24 => 135 | 14 => 151 | 15 => 152 | 16 => 153 | 17 => 154 | 18 => 155 | 19 => 156 | 20 => 157 | 21 => 158 | 22 => 159 | 25 => 172 | 26 => 161 | 27 => 162 | 28 => 173 | 29 => 174 | 30 => 175 | 31 => 182 | n => n, fun | 26 => 3 | 28 => 221 | 24 => 217 | 0 => 0 | 3 => 3 | 37 => 260 | 48 => 285 | 50 => 74 | 4 => 4 | 40 => 279 | 39 => 278 | 45 => 208 | 5 => 5 | 9 => 9 | 51 => 302 | 55 => 306 | 57 => 314 | 58 => 103 | 33 => 254 | n => n, fun | n => n⟩
theorem sortedL : Go.Proofs.SlLaysZI.n6 Tryz.prog sortedL_ren := {
  mixed := by kernel_rfl
  f6 := ⟨Tryz.f82.name, by decide, Tryz.func82.trans (congrArg some (by kernel_rfl))⟩
  f8 := ⟨Tryz.f107.name, by decide, Tryz.func107.trans (congrArg some (by kernel_rfl))⟩
  f11 := ⟨Tryz.f123.name, by decide, Tryz.func123.trans (congrArg some (by kernel_rfl))⟩
  t0 := Tryz.underlying0
  a0 := Tryz.isAgg0
  z0 := Tryz.sizeOf0
  v0 := Tryz.zeroValue0
  t24 := Tryz.underlying217
  a24 := Tryz.isAgg217
  z24 := Tryz.sizeOf217
  v24 := Tryz.zeroValue217
  t26 := Tryz.underlying3
  a26 := Tryz.isAgg3
  z26 := Tryz.sizeOf3
  v26 := Tryz.zeroValue3
  t28 := Tryz.underlying221
  a28 := Tryz.isAgg221
  z28 := Tryz.sizeOf221
  v28 := Tryz.zeroValue221
  i26 := by kernel_rfl }
def sortIntL_ren : Go.Shelf.Ren := ⟨fun | 5 => 108 | 8 => 112 | 7 => 124 | 19 => 134 | 20 => 135 | 10 => 151 | 11 => 152 | 12 => 153 | 13 => 154 | 14 => 155 | 15 => 156 | 16 => 157 | 17 => 158 | 18 => 159 | 30 => 172 | 31 => 161 | 32 => 162 | 33 => 173 | 34 => 174 | 35 => 175 | 40 => 182 | n => n, fun | 23 => 217 | 25 => 3 | 3 => 3 | 32 => 260 | 22 => 217 | 0 => 0 | 44 => 285 | 46 => 74 | 4 => 4 | 36 => 279 | 35 => 278 | 41 => 208 | 5 => 5 | 9 => 9 | 53 => 302 | 57 => 306 | 63 => 314 | 64 => 103 | n => n, fun | n => n⟩
theorem sortIntL : Go.Proofs.SlLaysM.n5 Tryz.prog sortIntL_ren := {
  mixed := by kernel_rfl
  f5 := ⟨Tryz.f108.name, by decide, Tryz.func108.trans (congrArg some (by kernel_rfl))⟩
  f7 := ⟨Tryz.f124.name, by decide, Tryz.func124.trans (congrArg some (by kernel_rfl))⟩
  f8 := Tryz.func112.trans (congrArg some (by kernel_rfl))
  f10 := ⟨Tryz.f151.name, by decide, Tryz.func151.trans (congrArg some (by kernel_rfl))⟩
  f11 := ⟨Tryz.f152.name, by decide, Tryz.func152.trans (congrArg some (by kernel_rfl))⟩
  f12 := ⟨Tryz.f153.name, by decide, Tryz.func153.trans (congrArg some (by kernel_rfl))⟩
  f13 := ⟨Tryz.f154.name, by decide, Tryz.func154.trans (congrArg some (by kernel_rfl))⟩
  f14 := ⟨Tryz.f155.name, by decide, Tryz.func155.trans (congrArg some (by kernel_rfl))⟩
  f15 := ⟨Tryz.f156.name, by decide, Tryz.func156.trans (congrArg some (by kernel_rfl))⟩
  f16 := ⟨Tryz.f157.name, by decide, Tryz.func157.trans (congrArg some (by kernel_rfl))⟩
  f17 := ⟨Tryz.f158.name, by decide, Tryz.func158.trans (congrArg some (by kernel_rfl))⟩
  f18 := ⟨Tryz.f159.name, by decide, Tryz.func159.trans (congrArg some (by kernel_rfl))⟩
  f19 := Tryz.func134.trans (congrArg some (by kernel_rfl))
  f20 := Tryz.func135.trans (congrArg some (by kernel_rfl))
  f30 := ⟨Tryz.f172.name, by decide, Tryz.func172.trans (congrArg some (by kernel_rfl))⟩
  f31 := Tryz.func161.trans (congrArg some (by kernel_rfl))
  f32 := Tryz.func162.trans (congrArg some (by kernel_rfl))
  f33 := ⟨Tryz.f173.name, by decide, Tryz.func173.trans (congrArg some (by kernel_rfl))⟩
  f34 := ⟨Tryz.f174.name, by decide, Tryz.func174.trans (congrArg some (by kernel_rfl))⟩
  f35 := ⟨Tryz.f175.name, by decide, Tryz.func175.trans (congrArg some (by kernel_rfl))⟩
  f40 := ⟨Tryz.f182.name, by decide, Tryz.func182.trans (congrArg some (by kernel_rfl))⟩
  t0 := Tryz.underlying0
  a0 := Tryz.isAgg0
  z0 := Tryz.sizeOf0
  v0 := Tryz.zeroValue0
  t3 := Tryz.underlying3
  a3 := Tryz.isAgg3
  z3 := Tryz.sizeOf3
  v3 := Tryz.zeroValue3
  t4 := Tryz.underlying4
  a4 := Tryz.isAgg4
  z4 := Tryz.sizeOf4
  v4 := Tryz.zeroValue4
  t5 := Tryz.underlying5
  a5 := Tryz.isAgg5
  z5 := Tryz.sizeOf5
  v5 := Tryz.zeroValue5
  t9 := Tryz.underlying9
  a9 := Tryz.isAgg9
  z9 := Tryz.sizeOf9
  v9 := Tryz.zeroValue9
  t22 := Tryz.underlying217
  a22 := Tryz.isAgg217
  z22 := Tryz.sizeOf217
  v22 := Tryz.zeroValue217
  t23 := Tryz.underlying217
  a23 := Tryz.isAgg217
  z23 := Tryz.sizeOf217
  v23 := Tryz.zeroValue217
  t25 := Tryz.underlying3
  a25 := Tryz.isAgg3
  z25 := Tryz.sizeOf3
  v25 := Tryz.zeroValue3
  t32 := Tryz.underlying260
  a32 := Tryz.isAgg260
  z32 := Tryz.sizeOf260
  v32 := Tryz.zeroValue260
  t35 := Tryz.underlying278
  a35 := Tryz.isAgg278
  z35 := Tryz.sizeOf278
  v35 := Tryz.zeroValue278
  t36 := Tryz.underlying279
  a36 := Tryz.isAgg279
  z36 := Tryz.sizeOf279
  v36 := Tryz.zeroValue279
  t41 := Tryz.underlying208
  a41 := Tryz.isAgg208
  z41 := Tryz.sizeOf208
  v41 := Tryz.zeroValue208
  t44 := Tryz.underlying285
  a44 := Tryz.isAgg285
  z44 := Tryz.sizeOf285
  v44 := Tryz.zeroValue285
  t46 := Tryz.underlying74
  a46 := Tryz.isAgg74
  z46 := Tryz.sizeOf74
  v46 := Tryz.zeroValue74
  t53 := Tryz.underlying302
  a53 := Tryz.isAgg302
  z53 := Tryz.sizeOf302
  v53 := Tryz.zeroValue302
  t57 := Tryz.underlying306
  a57 := Tryz.isAgg306
  z57 := Tryz.sizeOf306
  v57 := Tryz.zeroValue306
  t63 := Tryz.underlying314
  a63 := Tryz.isAgg314
  z63 := Tryz.sizeOf314
  v63 := Tryz.zeroValue314
  t64 := Tryz.underlying103
  a64 := Tryz.isAgg103
  z64 := Tryz.sizeOf103
  v64 := Tryz.zeroValue103 }
def sortFileL_ren : Go.Shelf.Ren := ⟨fun | 6 => 88 | 15 => 112 | 14 => 111 | 28 => 134 | 29 => 135 | 20 => 126 | 21 => 127 | 22 => 128 | 23 => 129 | 24 => 130 | 25 => 131 | 26 => 132 | 27 => 133 | 46 => 160 | 47 => 161 | 48 => 162 | 49 => 163 | 50 => 164 | 57 => 176 | n => n, fun | 22 => 24 | 24 => 44 | 25 => 232 | 3 => 3 | 39 => 260 | 0 => 0 | 53 => 285 | 55 => 74 | 4 => 4 | 46 => 279 | 45 => 278 | 50 => 208 | 5 => 5 | 9 => 9 | 66 => 302 | 70 => 306 | 76 => 314 | 77 => 103 | n => n, fun | n => n⟩
theorem sortFileL : Go.Proofs.SlLaysF0.n6 Tryz.prog sortFileL_ren := {
  mixed := by kernel_rfl
  f6 := ⟨Tryz.f88.name, by decide, Tryz.func88.trans (congrArg some (by kernel_rfl))⟩
  f14 := ⟨Tryz.f111.name, by decide, Tryz.func111.trans (congrArg some (by kernel_rfl))⟩
  f15 := Tryz.func112.trans (congrArg some (by kernel_rfl))
  f20 := ⟨Tryz.f126.name, by decide, Tryz.func126.trans (congrArg some (by kernel_rfl))⟩
  f21 := ⟨Tryz.f127.name, by decide, Tryz.func127.trans (congrArg some (by kernel_rfl))⟩
  f22 := ⟨Tryz.f128.name, by decide, Tryz.func128.trans (congrArg some (by kernel_rfl))⟩
  f23 := ⟨Tryz.f129.name, by decide, Tryz.func129.trans (congrArg some (by kernel_rfl))⟩
  f24 := ⟨Tryz.f130.name, by decide, Tryz.func130.trans (congrArg some (by kernel_rfl))⟩
  f25 := ⟨Tryz.f131.name, by decide, Tryz.func131.trans (congrArg some (by kernel_rfl))⟩
  f26 := ⟨Tryz.f132.name, by decide, Tryz.func132.trans (congrArg some (by kernel_rfl))⟩
  f27 := ⟨Tryz.f133.name, by decide, Tryz.func133.trans (congrArg some (by kernel_rfl))⟩
  f28 := Tryz.func134.trans (congrArg some (by kernel_rfl))
  f29 := Tryz.func135.trans (congrArg some (by kernel_rfl))
  f46 := ⟨Tryz.f160.name, by decide, Tryz.func160.trans (congrArg some (by kernel_rfl))⟩
  f47 := Tryz.func161.trans (congrArg some (by kernel_rfl))
  f48 := Tryz.func162.trans (congrArg some (by kernel_rfl))
  f49 := ⟨Tryz.f163.name, by decide, Tryz.func163.trans (congrArg some (by kernel_rfl))⟩
  f50 := ⟨Tryz.f164.name, by decide, Tryz.func164.trans (congrArg some (by kernel_rfl))⟩
  f57 := ⟨Tryz.f176.name, by decide, Tryz.func176.trans (congrArg some (by kernel_rfl))⟩
  t0 := Tryz.underlying0
  a0 := Tryz.isAgg0
  z0 := Tryz.sizeOf0
  v0 := Tryz.zeroValue0
  t3 := Tryz.underlying3
  a3 := Tryz.isAgg3
  z3 := Tryz.sizeOf3
  v3 := Tryz.zeroValue3
  t4 := Tryz.underlying4
  a4 := Tryz.isAgg4
  z4 := Tryz.sizeOf4
  v4 := Tryz.zeroValue4
  t5 := Tryz.underlying5
  a5 := Tryz.isAgg5
  z5 := Tryz.sizeOf5
  v5 := Tryz.zeroValue5
  t9 := Tryz.underlying9
  a9 := Tryz.isAgg9
  z9 := Tryz.sizeOf9
  v9 := Tryz.zeroValue9
  t22 := Tryz.underlying24
  a22 := Tryz.isAgg24
  z22 := Tryz.sizeOf24
  v22 := Tryz.zeroValue24
  t25 := Tryz.underlying232
  a25 := Tryz.isAgg232
  z25 := Tryz.sizeOf232
  v25 := Tryz.zeroValue232
  t39 := Tryz.underlying260
  a39 := Tryz.isAgg260
  z39 := Tryz.sizeOf260
  v39 := Tryz.zeroValue260
  t45 := Tryz.underlying278
  a45 := Tryz.isAgg278
  z45 := Tryz.sizeOf278
  v45 := Tryz.zeroValue278
  t46 := Tryz.underlying279
  a46 := Tryz.isAgg279
  z46 := Tryz.sizeOf279
  v46 := Tryz.zeroValue279
  t50 := Tryz.underlying208
  a50 := Tryz.isAgg208
  z50 := Tryz.sizeOf208
  v50 := Tryz.zeroValue208
  t53 := Tryz.underlying285
  a53 := Tryz.isAgg285
  z53 := Tryz.sizeOf285
  v53 := Tryz.zeroValue285
  t55 := Tryz.underlying74
  a55 := Tryz.isAgg74
  z55 := Tryz.sizeOf74
  v55 := Tryz.zeroValue74
  t66 := Tryz.underlying302
  a66 := Tryz.isAgg302
  z66 := Tryz.sizeOf302
  v66 := Tryz.zeroValue302
  t70 := Tryz.underlying306
  a70 := Tryz.isAgg306
  z70 := Tryz.sizeOf306
  v70 := Tryz.zeroValue306
  t76 := Tryz.underlying314
  a76 := Tryz.isAgg314
  z76 := Tryz.sizeOf314
  v76 := Tryz.zeroValue314
  t77 := Tryz.underlying103
  a77 := Tryz.isAgg103
  z77 := Tryz.sizeOf103
  v77 := Tryz.zeroValue103 }
def cloneBL_ren : Go.Shelf.Ren := ⟨fun | 41 => 91 | n => n, fun | 22 => 32 | 23 => 5 | 4 => 4 | n => n, fun | n => n⟩
theorem cloneBL : Go.Proofs.SlLaysE0.n41 Tryz.prog cloneBL_ren := {
  mixed := by kernel_rfl
  f41 := ⟨Tryz.f91.name, by decide, Tryz.func91.trans (congrArg some (by kernel_rfl))⟩
  t4 := Tryz.underlying4
  a4 := Tryz.isAgg4
  z4 := Tryz.sizeOf4
  v4 := Tryz.zeroValue4
  t22 := Tryz.underlying32
  a22 := Tryz.isAgg32
  z22 := Tryz.sizeOf32
  v22 := Tryz.zeroValue32 }
def compareSL_ren : Go.Shelf.Ren := ⟨fun | 106 => 90 | 213 => 113 | 265 => 136 | n => n, fun | 9 => 9 | 3 => 3 | n => n, fun | n => n⟩
theorem compareSL : Go.Proofs.Lays.n106 Tryz.prog compareSL_ren := {
  mixed := by kernel_rfl
  f106 := Tryz.func90.trans (congrArg some (by kernel_rfl))
  f213 := Tryz.func113.trans (congrArg some (by kernel_rfl))
  f265 := Tryz.func136.trans (congrArg some (by kernel_rfl))
  t3 := Tryz.underlying3
  a3 := Tryz.isAgg3
  z3 := Tryz.sizeOf3
  v3 := Tryz.zeroValue3
  t9 := Tryz.underlying9
  a9 := Tryz.isAgg9
  z9 := Tryz.sizeOf9
  v9 := Tryz.zeroValue9 }
end Go.Proofs.YtkmbleboceedbaaGreatDoor

/- Files that are told, as they lie; bytes that are cloned. -/
namespace Go.Proofs.YtkmbleboceedbaaGreatDoor
open Go Go.RowKit Go.Maps
set_option linter.unusedVariables false
set_option linter.unusedSimpArgs false

/-- The file at a place, as it is told. -/
def fileAt (p : PK) (j : Nat) : PFile := match p.xs[j]? with | some x => ⟨pathOf p.xs x.id, x.dir, p.cs.getD j []⟩ | none => ⟨ByteArray.empty, false, []⟩
theorem fileAt_eq {p : PK} {j : Nat} {x : Ino} {c : List Int} (hx : p.xs[j]? = some x) (hc : p.cs[j]? = some c) : fileAt p j = ⟨pathOf p.xs x.id, x.dir, c⟩ := by
  unfold fileAt
  rw [hx, List.getD_eq_getElem?_getD, hc]
  rfl
def elemVal (p : PK) (e : Nat × FLoc) : Value := .slice e.2.a (fileAt p e.1).bytes.length e.2.c
def elemRow (p : PK) (e : Nat × FLoc) : List Value := [.string (fileAt p e.1).path, .bool (fileAt p e.1).dir, elemVal p e]
def elemRows (p : PK) (EL : List (Nat × FLoc)) : List Value := EL.flatMap (elemRow p)
theorem elemRows_append (p : PK) (A B : List (Nat × FLoc)) : elemRows p (A ++ B) = elemRows p A ++ elemRows p B := by simp [elemRows]
theorem elemRows_length (p : PK) (EL : List (Nat × FLoc)) : (elemRows p EL).length = EL.length * 3 := by
  induction EL with
  | nil => rfl
  | cons a r ih =>
    have e : elemRows p (a :: r) = elemRow p a ++ elemRows p r := by simp [elemRows]
    rw [e, List.length_append, ih]
    simp [elemRow]
    omega
theorem elemRow_one (p : PK) (e : Nat × FLoc) : ∀ v ∈ elemRow p e, v.oneCell' = true := by
  intro v hv
  simp only [elemRow, elemVal, List.mem_cons, List.not_mem_nil, or_false] at hv
  rcases hv with rfl | rfl | rfl <;> rfl
theorem elemRows_one (p : PK) (EL : List (Nat × FLoc)) : ∀ v ∈ elemRows p EL, v.oneCell' = true := by
  intro v hv
  obtain ⟨e, _, he⟩ := List.mem_flatMap.1 hv
  exact elemRow_one p e v he
def blkOf (e : Nat × FLoc) : Option Nat := e.2.a.map Addr.block
theorem own_blk (p : PK) (e : Nat × FLoc) : (elemVal p e).ownBlock = blkOf e := by
  unfold elemVal blkOf Value.ownBlock
  cases e.2.a <;> rfl
/-- A list of files as it lies. -/
structure LRep (p : PK) (w : World) (B : Nat) (v : Value) (EL : List (Nat × FLoc)) : Prop where
  row : w.ownsRow B 44 3 v EL.length (elemRows p EL)
  each : ∀ e ∈ EL, w.ownsRow B 5 1 (elemVal p e) (fileAt p e.1).bytes.length (bytesRow (fileAt p e.1).bytes)
  apart : EL.Pairwise (fun e f => blkOf e ≠ none → blkOf e ≠ blkOf f)
  own : ∀ e ∈ EL, blkOf e ≠ none → v.ownBlock ≠ blkOf e
  nil : EL = [] → v = .slice none 0 0
theorem LRep.below {p : PK} {w w' : World} {B : Nat} {v : Value} {EL : List (Nat × FLoc)} (h : LRep p w B v EL) (hb : Below w.heap.size w w') : LRep p w' B v EL :=
  ⟨own_below h.row (hide hb), fun e he => own_below (h.each e he) (hide hb), h.apart, h.own, h.nil⟩
theorem LRep.base {p : PK} {w : World} {B B' : Nat} {v : Value} {EL : List (Nat × FLoc)} (h : LRep p w B v EL) (hB : B' ≤ B) : LRep p w B' v EL :=
  ⟨own_base h.row hB, fun e he => own_base (h.each e he) hB, h.apart, h.own, h.nil⟩
theorem LRep.empty (p : PK) (w : World) (B : Nat) : LRep p w B (.slice none 0 0) [] := ⟨World.ownsRow_nil _ _ _ _, fun e he => absurd he (by simp), List.Pairwise.nil, fun e he => absurd he (by simp), fun _ => rfl⟩
theorem LRep.blk {p : PK} {w : World} {B : Nat} {v : Value} {EL : List (Nat × FLoc)} (h : LRep p w B v EL) {e : Nat × FLoc} (he : e ∈ EL) {k : Nat} (hk : blkOf e = some k) : B ≤ k ∧ k < w.heap.size := (h.each e he).lt k (by rw [own_blk]; exact hk)
/-- More files behind them. -/
theorem LRep.app {p : PK} {w w' : World} {B B2 g cap : Nat} {v : Value} {EL EL2 : List (Nat × FLoc)} (h : LRep p w B v EL) (h2 : ∀ e ∈ EL2, w.ownsRow B2 5 1 (elemVal p e) (fileAt p e.1).bytes.length (bytesRow (fileAt p e.1).bytes)) (ha2 : EL2.Pairwise (fun e f => blkOf e ≠ none → blkOf e ≠ blkOf f)) (hB : B ≤ B2)
    (hv : ∀ k, v.ownBlock = some k → k < B2) (hE : ∀ e ∈ EL, ∀ k, blkOf e = some k → k < B2) (hne : EL2 ≠ [])
    (hown : w'.ownsRow B 44 3 (.slice (some ⟨g, 0, none⟩) (EL.length + EL2.length) cap) (EL.length + EL2.length) (elemRows p EL ++ elemRows p EL2)) (hg : w.grownBy w' v.ownBlock) (hat : v.ownBlock = some g ∨ w.heap.size ≤ g) :
    LRep p w' B (.slice (some ⟨g, 0, none⟩) (EL.length + EL2.length) cap) (EL ++ EL2) := by
  have hlt2 : ∀ e ∈ EL2, ∀ k, blkOf e = some k → B2 ≤ k ∧ k < w.heap.size := fun e he k hk => (h2 e he).lt k (by rw [own_blk]; exact hk)
  refine ⟨?_, fun e he => ?_, List.pairwise_append.2 ⟨h.apart, ha2, fun e he f hf hn => ?_⟩, fun e he hn => ?_, fun q => absurd (List.append_eq_nil_iff.1 q).2 hne⟩
  · rw [List.length_append, elemRows_append]; exact hown
  · rcases List.mem_append.1 he with he | he
    · refine (h.each e he).kept hg ?_
      by_cases hb : blkOf e = none
      · left
        rw [own_blk]; exact hb
      · right
        rw [own_blk]
        exact fun q => h.own e he hb q.symm
    · refine own_base ((h2 e he).kept hg ?_) hB
      by_cases hb : blkOf e = none
      · left
        rw [own_blk]; exact hb
      · right
        rw [own_blk]
        intro q
        obtain ⟨k, hk⟩ := Option.ne_none_iff_exists'.1 hb
        have h1 := hlt2 e he k hk
        have h3 := hv k (by rw [← q, hk])
        omega
  · obtain ⟨k, hk⟩ := Option.ne_none_iff_exists'.1 hn
    intro q
    have h1 := hE e he k hk
    have h3 := hlt2 f hf k (by rw [← q, hk])
    omega
  · show some g ≠ blkOf e
    obtain ⟨k, hk⟩ := Option.ne_none_iff_exists'.1 hn
    intro q
    rw [hk] at q
    have e1 : g = k := by simpa using q
    subst e1
    rcases List.mem_append.1 he with he | he
    · rcases hat with q | q
      · exact h.own e he hn (by rw [q, hk])
      · have := (h.blk he hk).2; omega
    · have h1 := hlt2 e he g hk
      rcases hat with q | q
      · have := hv g q; omega
      · omega
theorem nodup_len : ∀ (l m : List Nat), l.Nodup → (∀ x ∈ l, x ∈ m) → l.length ≤ m.length
  | [], m, _, _ => by simp
  | a :: r, m, hn, hs => by
    obtain ⟨h1, h2⟩ := List.nodup_cons.1 hn
    have ha : a ∈ m := hs a (by simp)
    have := nodup_len r (m.erase a) h2 (fun x hx => (List.mem_erase_of_ne (fun (e : x = a) => h1 (by rw [← e]; exact hx))).2 (hs x (by simp [hx])))
    rw [List.length_erase_of_mem ha] at this
    have : 0 < m.length := List.length_pos_of_mem ha
    simp
    omega
theorem u8Info : (Tryz.prog.info? 5).map (fun i => (i.zero, i.size, i.bytes)) = some (some (.int .u8 0), 1, 1) := by kernel_rfl
theorem clone_bytes {B : Nat} {v : Value} {c : List Int} (w : World) (hv : BytesIs w B v c) (hl : c.length ≤ 1000000) : Calls Tryz.prog 91 #[v] w fun e w' => ∃ a k, e = .returned (.slice a c.length k) ∧ w'.ownsRow w.heap.size 5 1 (.slice a c.length k) c.length (bytesRow c) ∧ Below w.heap.size w w' := by
  rcases hv with ⟨rfl, rfl⟩ | ⟨R, cp, T, rfl, hR, hcp, _, _⟩
  · refine (AnyE.slices_Clone_nil cloneBL 0 0 w).mono ?_
    rintro e w' ⟨rfl, rfl⟩
    exact ⟨none, 0, rfl, World.ownsRow_nil _ _ _ _, Below.refl _ _⟩
  · obtain ⟨i, hi, hz0, hz1, hz2⟩ := info_parts u8Info
    refine (AnyE.slices_Clone cloneBL i (.int .u8 0) 1 1 hi hz0 hz1 hz2 rfl (by decide) Tryz.sizeOf5 R 0 c.length cp (bytesRow c) w (by rw [bytesRow_length]; omega) (by unfold maxLen; omega) (by omega) (fun j u hj => ?_) (bytesRow_one c)).mono ?_
    · rw [Nat.zero_add]
      refine hR.cell ?_
      rw [bytesRow_append, List.getElem?_append_left (List.getElem?_eq_some_iff.1 hj).1]
      exact hj
    · rintro e w' ⟨v', rfl, ho, hn, hb⟩
      have ho : w'.ownsRow w.heap.size 5 1 v' c.length (bytesRow c) := ho
      rcases ho.2 with ⟨rfl, h0⟩ | ⟨g, cap, cur, hv', _⟩
      · exact absurd rfl hn
      · subst hv'
        exact ⟨_, _, rfl, ho, hb⟩
end Go.Proofs.YtkmbleboceedbaaGreatDoor

/- The program's Console, where nothing was written. -/
namespace Go.Proofs.YtkmbleboceedbaaGreatDoor
open Go Go.RowKit
set_option linter.unusedVariables false
set_option linter.unusedSimpArgs false

set_option maxRecDepth 100000 in
theorem clone_nil (w : World) : Calls Tryz.prog 91 #[.slice none 0 0] w fun e w' => e = .returned (.slice none 0 0) ∧ w' = w := by
  exact AnyE.slices_Clone_nil cloneBL 0 0 w
/-- A cell that is set to what it holds. -/
theorem set_same {w : World} {b j : Nat} {t : TypeId} {vs : List Value} {v : Value} (h : Holds w b t vs) (hj : vs[j]? = some v) : Below w.heap.size w (w.setCell ⟨b, j, none⟩ v) := by
  have h1 := h.set j v
  have hl := (List.getElem?_eq_some_iff.1 hj).1
  have e : vs.set j v = vs := by
    apply List.ext_getElem?
    intro i
    rw [List.getElem?_set]
    split
    · rename_i hi
      subst hi
      rw [hj]
    · rfl
  rw [e] at h1
  have hb := (Below.refl b w).setCell (p := ⟨b, j, none⟩) (Nat.le_refl _) v
  refine ⟨hb.os, hb.tape, hb.output, hb.size, fun k hk => ?_⟩
  by_cases hkb : k = b
  · subst hkb
    unfold Holds at h h1
    rw [h, h1]
  · show (w.heap.modify b _)[k]? = w.heap[k]?
    rw [Array.getElem?_modify, if_neg (fun e => hkb e.symm)]
set_option maxRecDepth 100000 in
set_option maxHeartbeats 1000000 in
theorem take_nil (cb j : Nat) (t : TypeId) (vs : List Value) (w : World) (h : Holds w cb t vs) (hj : vs[j]? = some (.slice none 0 0)) :
    Calls Tryz.prog 58 #[.pointer (some ⟨cb, j, none⟩), .int .i64 0] w fun e w' => e = .returned (.slice none 0 0) ∧ Below w.heap.size w w' := by
  have c0 : w.cell? ⟨cb, j, none⟩ = some (.slice none 0 0) := h.cell hj
  have f0 := h.frozen j
  have HB := hide (set_same h hj)
  have HC := hide (clone_nil w)
  clear h hj
  go_enter Tryz.func58, Tryz.ntmps58
  go_wp2_with fail
  refine (unhide HC).mono ?_
  rintro e w1 ⟨rfl, hw⟩
  subst hw
  go_wp2
  go_ret
  exact ⟨rfl, unhide HB⟩
theorem takeEnter : ∀ args w, (callFunc 58 args).run Tryz.prog w = .ok (.enter 58 args) w := enters_of Tryz.func58 (by kernel_rfl) rfl
def conRow : List Value := [.slice none 0 0, .slice none 0 0]
set_option maxRecDepth 100000 in
set_option maxHeartbeats 1000000 in
theorem conTell_nil (cb : Nat) (w : World) (h : Holds w cb 129 conRow) :
    Calls Tryz.prog 36 #[.pointer (some ⟨cb, 0, none⟩)] w fun e w' => e = .returned (.slice none 0 0) ∧ Below w.heap.size w w' := by
  have hS0 : w.cell? ⟨cb, 1, none⟩ = some (.slice none 0 0) := h.cell rfl
  have HT := hide (take_nil cb 1 129 conRow w.drew (h.heap rfl) rfl)
  have R1 := hide (show ∀ w' : World, w'.cell? ⟨cb, 1, none⟩ = some (.slice none 0 0) → (Instr.loadAt 32 (.pointer (some ⟨cb, 1, none⟩))).run Tryz.prog w' = .ok (.slice none 0 0) w' from fun w' h' => by
    clear hS0 h
    go_simp)
  have hcl := h.lt
  have HS0 := hide hS0
  clear h hS0
  go_enter Tryz.func36, Tryz.ntmps36
  go_upto_region 1 with fail
  refine act_gen ?_
  intro A hA
  have e0 : A.eval (.tmp 0) = .pointer (some ⟨cb, 0, none⟩) := by rw [hA]; rfl
  have esz : A.tmps.size = 13 := by rw [hA]; rfl
  have HA := hide hA
  clear hA
  refine wp_region_held_drew (S := fun w' => w'.cell? ⟨cb, 1, none⟩ = some (.slice none 0 0)) (by kernel_rfl) (unhide HS0) (fun hS => ?_)
  refine takeH (i := 0) (some 3) rfl rfl (by kernel_rfl) (by kernel_rfl) (by kernel_rfl) (fun _ _ _ h => h) (yields_move rfl _ rfl (.pointer (some ⟨cb, 0, none⟩)) (by simp [put_eval, put_size, esz, e0])) hS ?_
  refine takeH (i := 1) (some 4) rfl rfl (by kernel_rfl) (by kernel_rfl) (by kernel_rfl) (fun _ _ _ h => h) (yields_nil rfl _ rfl ⟨cb, 0, none⟩ (by simp [put_eval, put_size, esz, e0])) hS ?_
  refine takeH (i := 2) (some 5) rfl rfl (by kernel_rfl) (by kernel_rfl) (by kernel_rfl) (fun _ _ _ h => h) (yields_field rfl _ _ _ rfl (.pointer (some ⟨cb, 0, none⟩)) (by simp [put_eval, put_size, esz, e0]) (.pointer (some ⟨cb, 1, none⟩)) (fun w' => by go_simp)) hS ?_
  refine takeH (i := 3) (some 6) rfl rfl (by kernel_rfl) (by kernel_rfl) (by kernel_rfl) (fun _ _ _ h => h) (yields_move rfl _ rfl (.pointer (some ⟨cb, 0, none⟩)) (by simp [put_eval, put_size, esz, e0])) hS ?_
  refine takeH (i := 4) (some 7) rfl rfl (by kernel_rfl) (by kernel_rfl) (by kernel_rfl) (fun _ _ _ h => h) (yields_nil rfl _ rfl ⟨cb, 0, none⟩ (by simp [put_eval, put_size, esz, e0])) hS ?_
  refine takeH (i := 5) (some 8) rfl rfl (by kernel_rfl) (by kernel_rfl) (by kernel_rfl) (fun _ _ _ h => h) (yields_field rfl _ _ _ rfl (.pointer (some ⟨cb, 0, none⟩)) (by simp [put_eval, put_size, esz, e0]) (.pointer (some ⟨cb, 1, none⟩)) (fun w' => by go_simp)) hS ?_
  refine takeH (i := 6) (some 9) rfl rfl (by kernel_rfl) (by kernel_rfl) (by kernel_rfl) (fun _ _ _ h => h) (yields_field rfl _ _ _ rfl (.pointer (some ⟨cb, 1, none⟩)) (by simp [put_eval, put_size, esz, e0]) (.pointer (some ⟨cb, 1, none⟩)) (fun w' => by go_simp)) hS ?_
  refine takeH (i := 7) (some 10) rfl rfl (by kernel_rfl) (by kernel_rfl) (by kernel_rfl) (fun _ _ _ h => h) (yields_load1 rfl _ _ rfl ⟨cb, 1, none⟩ (by simp [put_eval, put_size, esz, e0]) (.slice none 0 0) (unhide R1)) hS ?_
  refine takeH (i := 8) (some 11) rfl rfl (by kernel_rfl) (by kernel_rfl) (by kernel_rfl) (fun _ _ _ h => h) (yields_len rfl _ _ rfl (.slice none 0 0) (by simp [put_eval, put_size, esz, e0]) (.int .i64 0) (fun w' _ => by go_simp)) hS ?_
  refine wpAnyH_ready (rs := [9]) (by kernel_rfl) (by simp) (AllReadyH.cons rfl (fun K hK => ?_) AllReadyH.nil)
  refine step_call2x rfl 58 5 11 _ _ rfl (.pointer (some ⟨cb, 1, none⟩)) (.int .i64 0) (by simp [put_eval, put_size, esz, e0]) (by simp [put_eval, put_size, esz, e0]) takeEnter _ (fun e w' h => ⟨_, h.1⟩) (unhide HT) (some 12) rfl ?_
  rintro r2 w2 ⟨hr2, hb2⟩
  have hr2 : r2 = .slice none 0 0 := by injection hr2
  subst hr2
  have hb2 : Below w.heap.size w w2 := ⟨hb2.os, hb2.tape, hb2.output, hb2.size, hb2.block⟩
  refine hK.out _ _ (by rw [hb2.cell (p := ⟨cb, 1, none⟩) hcl]; exact unhide HS0) (fun hS2 => ?_)
  clear hK K
  refine takeH (i := 10) (some 2) rfl rfl (by kernel_rfl) (by kernel_rfl) (by kernel_rfl) (fun _ _ _ h => h) (yields_assign rfl _ rfl (.slice none 0 0) (by simp [put_eval, put_size, esz])) hS2 ?_
  refine wpAnyH_done (by kernel_rfl) ?_ _
  have HB2 := hide hb2
  rw [unhide HA]
  simp only [Act.put, List.setIfInBounds_toArray, List.set_cons_zero, List.set_cons_succ]
  clear hb2 hS hS2 HA e0 esz R1 HT
  go_wp2
  go_ret
  exact ⟨rfl, unhide HB2⟩
set_option maxRecDepth 100000 in
set_option maxHeartbeats 1000000 in
theorem kConsole_nil (kb cb : Nat) (w : World) (hk : w.cell? ⟨kb, 6, none⟩ = some (.pointer (some ⟨cb, 0, none⟩))) (h : Holds w cb 129 conRow) :
    Calls Tryz.prog 25 #[.pointer (some ⟨kb, 0, none⟩)] w fun e w' => e = .returned (.slice none 0 0) ∧ Below w.heap.size w w' := by
  have HT := hide (conTell_nil cb w h)
  clear h
  go_enter Tryz.func25, Tryz.ntmps25
  go_wp2_with fail
  refine (unhide HT).mono ?_
  rintro e w1 ⟨rfl, hb⟩
  have HB := hide hb
  clear hb hk HT
  go_wp2
  go_ret
  exact ⟨rfl, unhide HB⟩
set_option maxRecDepth 100000 in
set_option maxHeartbeats 1000000 in
theorem console_nil (tk kb cb : Nat) (w : World) (ht : w.cell? ⟨tk, 0, none⟩ = some (.pointer (some ⟨kb, 0, none⟩))) (hk : w.cell? ⟨kb, 6, none⟩ = some (.pointer (some ⟨cb, 0, none⟩))) (h : Holds w cb 129 conRow) :
    Calls Tryz.prog 9 #[.pointer (some ⟨tk, 0, none⟩)] w fun e w' => e = .returned (.slice none 0 0) ∧ Below w.heap.size w w' := by
  have HT := hide (kConsole_nil kb cb w hk h)
  clear h hk
  go_enter Tryz.func9, Tryz.ntmps9
  go_wp2_with fail
  refine (unhide HT).mono ?_
  rintro e w1 ⟨rfl, hb⟩
  have HB := hide hb
  clear hb ht HT
  go_wp2
  go_ret
  exact ⟨rfl, unhide HB⟩
end Go.Proofs.YtkmbleboceedbaaGreatDoor
