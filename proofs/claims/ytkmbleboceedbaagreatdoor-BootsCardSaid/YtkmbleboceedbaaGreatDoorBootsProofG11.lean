import Derived.Shelf.Strings.Split
import Derived.Shelf.Small.Strs
import Derived.Shelf.Strings.Prefix
import Derived.Shelf.Strconv.Clone
import Derived.Test.YtkmbleboceedbaaGreatDoorBootsProofG01
import Derived.Shelf.SlSortCmp.SmallK
import Derived.Shelf.Small.Bits
import Derived.Test.YtkmbleboceedbaaGreatDoorBootsProofG02
import Derived.Laws.Bits64
import Derived.Lib.Bytealg
/- The shelf's layings at this seat, in plain words. Written by layfs.sh: the numbers are one seat's own. -/
namespace Go.Proofs.YtkmbleboceedbaaGreatDoor
open Go.Shelf
def split_ren : Go.Shelf.Ren := ⟨fun | 146 => 116 | 221 => 139 | 268 => 165 | 138 => 166 | 143 => 167 | 195 => 177 | 197 => 178 | 218 => 179 | 219 => 180 | 260 => 183 | 217 => 150 | 225 => 184 | 224 => 185 | 267 => 186 | 266 => 171 | 314 => 187 | n => n, fun | 9 => 9 | 31 => 50 | 3 => 3 | 4 => 4 | 0 => 0 | 105 => 316 | 21 => 21 | 5 => 5 | 46 => 260 | 119 => 85 | 139 => 322 | 138 => 321 | 146 => 323 | 51 => 285 | n => n, fun | 1 => 2 | 3 => 3 | 4 => 4 | n => n⟩
theorem split : Go.Proofs.Lays.n146 Tryz.prog split_ren := {
  mixed := by kernel_rfl
  f138 := Tryz.func166.trans (congrArg some (by kernel_rfl))
  f143 := Tryz.func167.trans (congrArg some (by kernel_rfl))
  f146 := Tryz.func116.trans (congrArg some (by kernel_rfl))
  f195 := Tryz.func177.trans (congrArg some (by kernel_rfl))
  f197 := Tryz.func178.trans (congrArg some (by kernel_rfl))
  f217 := Tryz.func150.trans (congrArg some (by kernel_rfl))
  f218 := Tryz.func179.trans (congrArg some (by kernel_rfl))
  f219 := Tryz.func180.trans (congrArg some (by kernel_rfl))
  f221 := Tryz.func139.trans (congrArg some (by kernel_rfl))
  f224 := Tryz.func185.trans (congrArg some (by kernel_rfl))
  f225 := Tryz.func184.trans (congrArg some (by kernel_rfl))
  f260 := Tryz.func183.trans (congrArg some (by kernel_rfl))
  f266 := Tryz.func171.trans (congrArg some (by kernel_rfl))
  f267 := Tryz.func186.trans (congrArg some (by kernel_rfl))
  f268 := Tryz.func165.trans (congrArg some (by kernel_rfl))
  f314 := Tryz.func187.trans (congrArg some (by kernel_rfl))
  t0 := Tryz.underlying0
  a0 := Tryz.isAgg0
  z0 := Tryz.sizeOf0
  v0 := Tryz.zeroValue0
  t3 := Tryz.underlying3
  a3 := Tryz.isAgg3
  z3 := Tryz.sizeOf3
  v3 := Tryz.zeroValue3
  t4 := Tryz.underlying4
  a4 := Tryz.isAgg4
  z4 := Tryz.sizeOf4
  v4 := Tryz.zeroValue4
  t5 := Tryz.underlying5
  a5 := Tryz.isAgg5
  z5 := Tryz.sizeOf5
  v5 := Tryz.zeroValue5
  t9 := Tryz.underlying9
  a9 := Tryz.isAgg9
  z9 := Tryz.sizeOf9
  v9 := Tryz.zeroValue9
  t21 := Tryz.underlying21
  a21 := Tryz.isAgg21
  z21 := Tryz.sizeOf21
  v21 := Tryz.zeroValue21
  t31 := Tryz.underlying50
  a31 := Tryz.isAgg50
  z31 := Tryz.sizeOf50
  v31 := Tryz.zeroValue50
  t46 := Tryz.underlying260
  a46 := Tryz.isAgg260
  z46 := Tryz.sizeOf260
  v46 := Tryz.zeroValue260
  t51 := Tryz.underlying285
  a51 := Tryz.isAgg285
  z51 := Tryz.sizeOf285
  v51 := Tryz.zeroValue285
  t105 := Tryz.underlying316
  a105 := Tryz.isAgg316
  z105 := Tryz.sizeOf316
  v105 := Tryz.zeroValue316
  t119 := Tryz.underlying85
  a119 := Tryz.isAgg85
  z119 := Tryz.sizeOf85
  t138 := Tryz.underlying321
  a138 := Tryz.isAgg321
  z138 := Tryz.sizeOf321
  v138 := Tryz.zeroValue321
  t139 := Tryz.underlying322
  a139 := Tryz.isAgg322
  z139 := Tryz.sizeOf322
  v139 := Tryz.zeroValue322
  t146 := Tryz.underlying323
  a146 := Tryz.isAgg323
  z146 := Tryz.sizeOf323
  v146 := Tryz.zeroValue323
  g1 := by kernel_rfl
  g3 := by kernel_rfl
  g4 := by kernel_rfl }
def hasPrefix_ren : Go.Shelf.Ren := ⟨fun | 99 => 115 | 206 => 138 | n => n, fun | 9 => 9 | 4 => 4 | 3 => 3 | n => n, fun | n => n⟩
theorem hasPrefix : Go.Proofs.Lays.n99 Tryz.prog hasPrefix_ren := {
  mixed := by kernel_rfl
  f99 := Tryz.func115.trans (congrArg some (by kernel_rfl))
  f206 := Tryz.func138.trans (congrArg some (by kernel_rfl))
  t3 := Tryz.underlying3
  a3 := Tryz.isAgg3
  z3 := Tryz.sizeOf3
  v3 := Tryz.zeroValue3
  t4 := Tryz.underlying4
  a4 := Tryz.isAgg4
  z4 := Tryz.sizeOf4
  v4 := Tryz.zeroValue4
  t9 := Tryz.underlying9
  a9 := Tryz.isAgg9
  z9 := Tryz.sizeOf9
  v9 := Tryz.zeroValue9 }
def indexByte_ren : Go.Shelf.Ren := ⟨fun | 137 => 122 | 217 => 150 | 266 => 171 | n => n, fun | 9 => 9 | 5 => 5 | 3 => 3 | n => n, fun | n => n⟩
theorem indexByte : Go.Proofs.Lays.n137 Tryz.prog indexByte_ren := {
  mixed := by kernel_rfl
  f137 := Tryz.func122.trans (congrArg some (by kernel_rfl))
  f217 := Tryz.func150.trans (congrArg some (by kernel_rfl))
  f266 := Tryz.func171.trans (congrArg some (by kernel_rfl))
  t3 := Tryz.underlying3
  a3 := Tryz.isAgg3
  z3 := Tryz.sizeOf3
  v3 := Tryz.zeroValue3
  t5 := Tryz.underlying5
  a5 := Tryz.isAgg5
  z5 := Tryz.sizeOf5
  v5 := Tryz.zeroValue5
  t9 := Tryz.underlying9
  a9 := Tryz.isAgg9
  z9 := Tryz.sizeOf9
  v9 := Tryz.zeroValue9 }
def sclone_ren : Go.Shelf.Ren := ⟨fun | 316 => 137 | n => n, fun | 9 => 9 | 3 => 3 | 4 => 4 | 37 => 32 | 0 => 0 | 127 => 308 | 5 => 5 | n => n, fun | n => n⟩
theorem sclone : Go.Proofs.LaysM.n316 Tryz.prog sclone_ren := {
  mixed := by kernel_rfl
  f316 := Tryz.func137.trans (congrArg some (by kernel_rfl))
  t0 := Tryz.underlying0
  a0 := Tryz.isAgg0
  z0 := Tryz.sizeOf0
  v0 := Tryz.zeroValue0
  t3 := Tryz.underlying3
  a3 := Tryz.isAgg3
  z3 := Tryz.sizeOf3
  v3 := Tryz.zeroValue3
  t4 := Tryz.underlying4
  a4 := Tryz.isAgg4
  z4 := Tryz.sizeOf4
  v4 := Tryz.zeroValue4
  t9 := Tryz.underlying9
  a9 := Tryz.isAgg9
  z9 := Tryz.sizeOf9
  v9 := Tryz.zeroValue9
  t37 := Tryz.underlying32
  a37 := Tryz.isAgg32
  z37 := Tryz.sizeOf32
  v37 := Tryz.zeroValue32
  t127 := Tryz.underlying308
  a127 := Tryz.isAgg308
  z127 := Tryz.sizeOf308
  v127 := Tryz.zeroValue308
  t5 := Tryz.underlying5
  a5 := Tryz.isAgg5
  z5 := Tryz.sizeOf5
  v5 := Tryz.zeroValue5
  i0 := by kernel_rfl
  i3 := by kernel_rfl
  i4 := by kernel_rfl
  i5 := by kernel_rfl
  i9 := by kernel_rfl
  i37 := by kernel_rfl
  i127 := by kernel_rfl }
end Go.Proofs.YtkmbleboceedbaaGreatDoor

/- The shelf's layings at this seat, in plain words. Written by laysort.sh: the numbers are one seat's own. -/
namespace Go.Proofs.YtkmbleboceedbaaGreatDoor
open Go.Shelf
def sortSeg_ren : Go.Shelf.Ren := ⟨fun | 6 => 97 | 15 => 112 | 14 => 119 | 28 => 134 | 29 => 135 | 20 => 142 | 21 => 143 | 22 => 144 | 23 => 145 | 24 => 146 | 25 => 147 | 26 => 148 | 27 => 149 | 46 => 168 | 47 => 161 | 48 => 162 | 49 => 169 | 50 => 170 | 57 => 181 | n => n, fun | 22 => 237 | 24 => 242 | 25 => 244 | 3 => 3 | 39 => 260 | 0 => 0 | 53 => 285 | 55 => 74 | 4 => 4 | 46 => 279 | 45 => 278 | 50 => 208 | 5 => 5 | 9 => 9 | 66 => 302 | 70 => 306 | 76 => 314 | 77 => 103 | n => n, fun | n => n⟩
theorem sortSeg : Go.Proofs.SlLaysF0.n6 Tryz.prog sortSeg_ren := {
  mixed := by kernel_rfl
  f6 := ⟨Tryz.f97.name, by decide, Tryz.func97.trans (congrArg some (by kernel_rfl))⟩
  f14 := ⟨Tryz.f119.name, by decide, Tryz.func119.trans (congrArg some (by kernel_rfl))⟩
  f15 := Tryz.func112.trans (congrArg some (by kernel_rfl))
  f20 := ⟨Tryz.f142.name, by decide, Tryz.func142.trans (congrArg some (by kernel_rfl))⟩
  f21 := ⟨Tryz.f143.name, by decide, Tryz.func143.trans (congrArg some (by kernel_rfl))⟩
  f22 := ⟨Tryz.f144.name, by decide, Tryz.func144.trans (congrArg some (by kernel_rfl))⟩
  f23 := ⟨Tryz.f145.name, by decide, Tryz.func145.trans (congrArg some (by kernel_rfl))⟩
  f24 := ⟨Tryz.f146.name, by decide, Tryz.func146.trans (congrArg some (by kernel_rfl))⟩
  f25 := ⟨Tryz.f147.name, by decide, Tryz.func147.trans (congrArg some (by kernel_rfl))⟩
  f26 := ⟨Tryz.f148.name, by decide, Tryz.func148.trans (congrArg some (by kernel_rfl))⟩
  f27 := ⟨Tryz.f149.name, by decide, Tryz.func149.trans (congrArg some (by kernel_rfl))⟩
  f28 := Tryz.func134.trans (congrArg some (by kernel_rfl))
  f29 := Tryz.func135.trans (congrArg some (by kernel_rfl))
  f46 := ⟨Tryz.f168.name, by decide, Tryz.func168.trans (congrArg some (by kernel_rfl))⟩
  f47 := Tryz.func161.trans (congrArg some (by kernel_rfl))
  f48 := Tryz.func162.trans (congrArg some (by kernel_rfl))
  f49 := ⟨Tryz.f169.name, by decide, Tryz.func169.trans (congrArg some (by kernel_rfl))⟩
  f50 := ⟨Tryz.f170.name, by decide, Tryz.func170.trans (congrArg some (by kernel_rfl))⟩
  f57 := ⟨Tryz.f181.name, by decide, Tryz.func181.trans (congrArg some (by kernel_rfl))⟩
  t0 := Tryz.underlying0
  a0 := Tryz.isAgg0
  z0 := Tryz.sizeOf0
  v0 := Tryz.zeroValue0
  t3 := Tryz.underlying3
  a3 := Tryz.isAgg3
  z3 := Tryz.sizeOf3
  v3 := Tryz.zeroValue3
  t4 := Tryz.underlying4
  a4 := Tryz.isAgg4
  z4 := Tryz.sizeOf4
  v4 := Tryz.zeroValue4
  t5 := Tryz.underlying5
  a5 := Tryz.isAgg5
  z5 := Tryz.sizeOf5
  v5 := Tryz.zeroValue5
  t9 := Tryz.underlying9
  a9 := Tryz.isAgg9
  z9 := Tryz.sizeOf9
  v9 := Tryz.zeroValue9
  t22 := Tryz.underlying237
  a22 := Tryz.isAgg237
  z22 := Tryz.sizeOf237
  v22 := Tryz.zeroValue237
  t25 := Tryz.underlying244
  a25 := Tryz.isAgg244
  z25 := Tryz.sizeOf244
  v25 := Tryz.zeroValue244
  t39 := Tryz.underlying260
  a39 := Tryz.isAgg260
  z39 := Tryz.sizeOf260
  v39 := Tryz.zeroValue260
  t45 := Tryz.underlying278
  a45 := Tryz.isAgg278
  z45 := Tryz.sizeOf278
  v45 := Tryz.zeroValue278
  t46 := Tryz.underlying279
  a46 := Tryz.isAgg279
  z46 := Tryz.sizeOf279
  v46 := Tryz.zeroValue279
  t50 := Tryz.underlying208
  a50 := Tryz.isAgg208
  z50 := Tryz.sizeOf208
  v50 := Tryz.zeroValue208
  t53 := Tryz.underlying285
  a53 := Tryz.isAgg285
  z53 := Tryz.sizeOf285
  v53 := Tryz.zeroValue285
  t55 := Tryz.underlying74
  a55 := Tryz.isAgg74
  z55 := Tryz.sizeOf74
  v55 := Tryz.zeroValue74
  t66 := Tryz.underlying302
  a66 := Tryz.isAgg302
  z66 := Tryz.sizeOf302
  v66 := Tryz.zeroValue302
  t70 := Tryz.underlying306
  a70 := Tryz.isAgg306
  z70 := Tryz.sizeOf306
  v70 := Tryz.zeroValue306
  t76 := Tryz.underlying314
  a76 := Tryz.isAgg314
  z76 := Tryz.sizeOf314
  v76 := Tryz.zeroValue314
  t77 := Tryz.underlying103
  a77 := Tryz.isAgg103
  z77 := Tryz.sizeOf103
  v77 := Tryz.zeroValue103 }
def bitsLen_ren : Go.Shelf.Ren := ⟨fun | 125 => 112 | 128 => 134 | 129 => 135 | n => n, fun | 46 => 260 | 3 => 3 | 51 => 285 | 53 => 74 | 4 => 4 | 5 => 5 | 9 => 9 | n => n, fun | n => n⟩
theorem bitsLen : Go.Proofs.Lays.n125 Tryz.prog bitsLen_ren := {
  mixed := by kernel_rfl
  f125 := Tryz.func112.trans (congrArg some (by kernel_rfl))
  f128 := Tryz.func134.trans (congrArg some (by kernel_rfl))
  f129 := Tryz.func135.trans (congrArg some (by kernel_rfl))
  t3 := Tryz.underlying3
  a3 := Tryz.isAgg3
  z3 := Tryz.sizeOf3
  v3 := Tryz.zeroValue3
  t4 := Tryz.underlying4
  a4 := Tryz.isAgg4
  z4 := Tryz.sizeOf4
  v4 := Tryz.zeroValue4
  t5 := Tryz.underlying5
  a5 := Tryz.isAgg5
  z5 := Tryz.sizeOf5
  v5 := Tryz.zeroValue5
  t9 := Tryz.underlying9
  a9 := Tryz.isAgg9
  z9 := Tryz.sizeOf9
  v9 := Tryz.zeroValue9
  t46 := Tryz.underlying260
  a46 := Tryz.isAgg260
  z46 := Tryz.sizeOf260
  v46 := Tryz.zeroValue260
  t51 := Tryz.underlying285
  a51 := Tryz.isAgg285
  z51 := Tryz.sizeOf285
  v51 := Tryz.zeroValue285
  t53 := Tryz.underlying74
  a53 := Tryz.isAgg74
  z53 := Tryz.sizeOf74
  v53 := Tryz.zeroValue74 }
end Go.Proofs.YtkmbleboceedbaaGreatDoor

/- Stack: the small callees: put, PutWords, word. -/
namespace Go.Proofs.YtkmbleboceedbaaGreatDoor
open Go.RowKit
set_option linter.unusedVariables false

set_option maxHeartbeats 1000000 in
theorem put_any (b off len cap : Nat) (t : TypeId) (L : List Int) (p : Nat) (n : Int) (w : World) (hrow : Holds w b t (bytesRow L)) (hp : p + 8 ≤ len) (hL : off + len ≤ L.length) (hl : L.length ≤ 100000) (n0 : 0 ≤ n) :
    Calls Tryz.prog 81 #[.slice (some ⟨b, off, none⟩) len cap, .int .i64 p, .int .u64 n] w fun e w' => e = .returned (.tuple #[]) ∧ Holds w' b t (bytesRow (splice L (off + p) (bytes8 n))) ∧ w.grownBy w' (some b) := by
  have h8 := bytes8_length n
  have H8 := hide h8
  have HW := hide hrow
  clear h8 hrow
  go_enter Tryz.func81, Tryz.ntmps81
  go_wp2
  go_loopw [6] (fun i wr => ∃ k : Nat, k ≤ 8 ∧ i = .int .i64 k ∧ Holds wr b t (bytesRow (splice L (off + p) ((bytes8 n).take k))) ∧ w.grownBy wr (some b)) (fun i _ => 8 - (intOf i).toNat)
  case atStart => exact ⟨0, by omega, rfl, by rw [List.take_zero, splice_nil]; exact unhide HW, World.grownBy.refl _ _⟩
  case round =>
    obtain ⟨k, hk, rfl, hr, hg⟩ := hrel
    by_cases hlt : k < 8
    · have ht : off + p + ((bytes8 n).take k).length ≤ L.length := by rw [List.length_take, unhide H8]; omega
      have hc : ∀ j, j < L.length → wr.cell? ⟨b, j, none⟩ = some (.int .u8 ((splice L (off + p) ((bytes8 n).take k)).getD j 0)) := fun j hj => hr.bytes j (by rw [splice_length _ _ _ ht]; exact hj)
      have hf : ∀ j, wr.frozen? ⟨b, j, none⟩ = false := fun j => hr.frozen j
      have hin : off + (p + k) < L.length := by omega
      have R := hr.set (off + (p + k)) (.int .u8 (n / 2 ^ (8 * k) % 256))
      rw [bytesRow_set, ← Nat.add_assoc, splice_set L (off + p) (bytes8 n) k _ (bytes8_get n k hlt) (by rw [unhide H8]; omega), Nat.add_assoc] at R
      have G := grown_set hg (off + (p + k)) (.int .u8 (n / 2 ^ (8 * k) % 256))
      have HR := hide R
      have HGG := hide G
      clear hr hg ht R G
      go_wp2
      go_roundw
      case rel => exact ⟨k + 1, by omega, by go_num, unhide HR, unhide HGG⟩
      case measure => simp [intOf]; omega
    · have e : k = 8 := by omega
      subst e
      have HR := hide hr
      clear hr
      go_wp2
      go_end0
      refine ⟨rfl, ?_, hg⟩
      have := unhide HR
      rwa [List.take_of_length_le (by rw [unhide H8]; omega)] at this

set_option maxHeartbeats 1000000 in
theorem putWords_any (b off len cap : Nat) (t : TypeId) (L : List Int) (q wcap : Nat) (tq : TypeId) (ws : List Int) (w : World) (hrow : Holds w b t (bytesRow L)) (hws : Holds w q tq (wordsRow ws)) (hqb : q ≠ b)
    (hp : 8 * ws.length ≤ len) (hL : off + len ≤ L.length) (hl : L.length ≤ 100000) :
    Calls Tryz.prog 105 #[.slice (some ⟨b, off, none⟩) len cap, .slice (some ⟨q, 0, none⟩) ws.length wcap] w fun e w' => e = .returned (.tuple #[]) ∧ Holds w' b t (bytesRow (splice L off (words8 ws))) ∧ w.grownBy w' (some b) := by
  have h8 := words8_length ws
  have H8 := hide h8
  have HW := hide hrow
  have HQ := hide hws
  clear h8 hrow hws
  go_enter Tryz.func105, Tryz.ntmps105
  go_wp2
  go_loopw [9] (fun i wr => ∃ k : Nat, k ≤ ws.length ∧ i = .int .i64 k ∧ Holds wr b t (bytesRow (splice L off ((words8 ws).take (8 * k)))) ∧ w.grownBy wr (some b)) (fun i _ => ws.length - (intOf i).toNat)
  case atStart => exact ⟨0, by omega, rfl, by rw [Nat.mul_zero, List.take_zero, splice_nil]; exact unhide HW, World.grownBy.refl _ _⟩
  case round =>
    obtain ⟨k, hk, rfl, hr, hg⟩ := hrel
    by_cases hlt : k < ws.length
    · obtain ⟨x, hx⟩ : ∃ x, x = ws.getD k 0 := ⟨_, rfl⟩
      have hq : wr.cell? ⟨q, k, none⟩ = some (.int .u64 x) := by rw [hx]; exact ((unhide HQ).grown hg (by simp; omega)).cell (wordsRow_get ws k hlt)
      have HX := hide hx
      clear hx
      have HR := hide hr
      have HGG := hide hg
      clear hr hg
      go_wp2
      go_loopw [14] (fun i wr => ∃ m : Nat, m ≤ 8 ∧ i = .int .i64 m ∧ Holds wr b t (bytesRow (splice L off ((words8 ws).take (8 * k + m)))) ∧ w.grownBy wr (some b)) (fun i _ => 8 - (intOf i).toNat)
      case atStart => exact ⟨0, by omega, rfl, unhide HR, unhide HGG⟩
      case round =>
        obtain ⟨m, hm, rfl, hr, hg⟩ := hrel
        by_cases hl8 : m < 8
        · have ht : off + ((words8 ws).take (8 * k + m)).length ≤ L.length := by rw [List.length_take, unhide H8]; omega
          have hc : ∀ j, j < L.length → wr.cell? ⟨b, j, none⟩ = some (.int .u8 ((splice L off ((words8 ws).take (8 * k + m))).getD j 0)) := fun j hj => hr.bytes j (by rw [splice_length _ _ _ ht]; exact hj)
          have hf : ∀ j, wr.frozen? ⟨b, j, none⟩ = false := fun j => hr.frozen j
          have hin : off + (k * 8 + m) < L.length := by omega
          have R := hr.set (off + (k * 8 + m)) (.int .u8 (x / 2 ^ (8 * m) % 256))
          rw [bytesRow_set, show k * 8 + m = 8 * k + m from by omega, splice_set L off (words8 ws) (8 * k + m) _ (by rw [unhide HX]; exact words8_get ws k m hl8 hlt) (by rw [unhide H8]; omega), show 8 * k + m = k * 8 + m from by omega] at R
          have G := grown_set hg (off + (k * 8 + m)) (.int .u8 (x / 2 ^ (8 * m) % 256))
          have HR2 := hide R
          have HG2 := hide G
          clear hr hg ht R G
          go_wp2
          go_roundw
          case rel => exact ⟨m + 1, by omega, by go_num, by have := unhide HR2; rwa [show k * 8 + m + 1 = 8 * k + (m + 1) from by omega] at this, unhide HG2⟩
          case measure => simp [intOf]; omega
        · have e : m = 8 := by omega
          subst e
          have HR2 := hide hr
          have HG2 := hide hg
          clear hr hg
          go_wp2
          go_roundw
          case rel => exact ⟨k + 1, by omega, by go_num, by have := unhide HR2; rwa [show 8 * k + 8 = 8 * (k + 1) from by omega] at this, unhide HG2⟩
          case measure => simp [intOf]; omega
    · have e : k = ws.length := by omega
      subst e
      have HR := hide hr
      clear hr
      go_wp2
      go_end0
      refine ⟨rfl, ?_, hg⟩
      have := unhide HR
      rwa [List.take_of_length_le (by rw [unhide H8]; omega)] at this

theorem word_step (x : Int) (i : Nat) : x / 2 ^ (8 * (i + 1)) * 256 + x / 2 ^ (8 * i) % 256 = x / 2 ^ (8 * i) := by
  have e : (2 : Int) ^ (8 * (i + 1)) = 2 ^ (8 * i) * 256 := by rw [show 8 * (i + 1) = 8 * i + 8 from by omega, Int.pow_add]; rfl
  have hp : (0 : Int) ≤ 2 ^ (8 * i) := Int.pow_nonneg (by decide)
  rw [e, ← Int.ediv_ediv_of_nonneg hp]
  omega
theorem word_wrap (y z : Int) (h : y * 256 + z % 256 = z) (h0 : 0 ≤ y) (h1 : 0 ≤ z) (h2 : z < 18446744073709551616) : IntKind.u64.wrap (IntKind.u64.wrap (y * 256) + z % 256) = z := by
  rw [IntKind.wrap_u64, IntKind.wrap_u64]; omega
theorem word_bd (x : Int) (i : Nat) (h0 : 0 ≤ x) (h1 : x < 18446744073709551616) : 0 ≤ x / 2 ^ (8 * i) ∧ x / 2 ^ (8 * i) < 18446744073709551616 := by
  have hp : (0 : Int) < 2 ^ (8 * i) := Int.pow_pos (by decide)
  refine ⟨Int.ediv_nonneg h0 (by omega), ?_⟩
  have : x / 2 ^ (8 * i) ≤ x := Int.ediv_le_self _ h0
  omega

end Go.Proofs.YtkmbleboceedbaaGreatDoor

/- Stack: are these arguments? -/
namespace Go.Proofs.YtkmbleboceedbaaGreatDoor
open Go.RowKit
set_option linter.unusedVariables false
set_option linter.unusedSimpArgs false

theorem index_nonneg (l : List UInt8) (c : UInt8) : 0 ≤ Lib.indexByte l c ↔ c ∈ l := by
  induction l with
  | nil => simp [Lib.indexByte]
  | cons b l ih =>
    unfold Lib.indexByte
    by_cases h : b = c
    · simp [h]
    · have h' : c ≠ b := fun e => h e.symm
      simp only [List.mem_cons, h', false_or, ← ih]
      have hne : (b == c) = false := by simpa using h
      simp only [hne]
      simp only [Bool.false_eq_true, if_false]
      by_cases g : Lib.indexByte l c = -1
      · simp [g]
      · have g' : (Lib.indexByte l c == -1) = false := by simpa using g
        simp only [g', Bool.false_eq_true, if_false]
        constructor <;> intro <;> omega

set_option maxHeartbeats 1000000 in
theorem index_any (s : ByteArray) (w : World) : Calls Tryz.prog 122 #[.string s, .int .u8 0] w fun e w' => e = .returned (.int .i64 (Lib.indexByte s.data.toList 0)) ∧ w' = w := by
  have h76 := @run_callFunc_extern Tryz.prog 171 _ Extern.BytealgIndexByte.indexByte Tryz.func171 (by kernel_rfl) (by kernel_rfl) (by kernel_rfl) (by kernel_rfl)
  have hr : ∀ w, (Extern.BytealgIndexByte.indexByte #[.string s, .int .u8 0]).run Tryz.prog w = .ok (.int .i64 (Lib.indexByte s.data.toList 0)) w := fun w => Lib.run_indexByteString s 0 w
  generalize Lib.indexByte s.data.toList 0 = r at *
  go_enter Tryz.func122, Tryz.ntmps122
  go_wp2
  go_ret
  exact ⟨rfl, rfl⟩

def okArg (s : ByteArray) : Bool := decide (s.size ≤ 30) && !(s.data.toList.contains 0)
def okArgs (ss : List ByteArray) : Bool := decide (ss.length ≤ 8) && ss.all okArg
theorem okArg_long {s : ByteArray} (h : 30 < s.size) : okArg s = false := by simp [okArg]; omega
theorem okArg_zero {s : ByteArray} (h : 0 ≤ Lib.indexByte s.data.toList 0) : okArg s = false := by
  have := (index_nonneg _ _).1 h
  simp [okArg, List.contains_iff_mem, this]
theorem okArg_yes {s : ByteArray} (h : s.size ≤ 30) (h0 : Lib.indexByte s.data.toList 0 < 0) : okArg s = true := by
  have : ¬ (0 : UInt8) ∈ s.data.toList := fun m => by have := (index_nonneg _ _).2 m; omega
  simp [okArg, h, this]
theorem all_false {ss : List ByteArray} {k : Nat} (hk : k < ss.length) (h : okArg (ss.getD k ByteArray.empty) = false) : ss.all okArg = false := by
  rw [List.all_eq_false]
  refine ⟨ss.getD k ByteArray.empty, ?_, by rw [h]; decide⟩
  simp [List.getD, List.getElem?_eq_getElem hk]
theorem all_take {ss : List ByteArray} {k : Nat} (hk : k < ss.length) (h : okArg (ss.getD k ByteArray.empty) = true) (ht : (ss.take k).all okArg = true) : (ss.take (k + 1)).all okArg = true := by
  rw [List.take_succ_eq_append_getElem hk, List.all_append, ht]
  simp [List.getD, List.getElem?_eq_getElem hk] at h
  simp [h]

set_option maxHeartbeats 1000000 in
theorem areArgs_any (a : Option Addr) (b off cap : Nat) (ss : List ByteArray) (w : World) (hn : ss.length ≤ 1000) (ha : 0 < ss.length → a = some ⟨b, off, none⟩)
    (hcell : ∀ i, i < ss.length → w.cell? ⟨b, off + i, none⟩ = some (.string (ss.getD i ByteArray.empty))) :
    Calls Tryz.prog 104 #[.slice a ss.length cap] w fun e w' => e = .returned (.bool (okArgs ss)) ∧ w' = w := by
  by_cases h8 : 8 < ss.length
  · have hr : okArgs ss = false := by simp [okArgs]; omega
    rw [hr]
    clear hr hcell ha
    go_enter Tryz.func104, Tryz.ntmps104
    go_wp2
    go_ret
    exact ⟨rfl, rfl⟩
  · have hr : okArgs ss = ss.all okArg := by simp [okArgs]; intro; omega
    rw [hr]
    have HC := hide hcell
    have HA := hide ha
    clear hr hcell ha
    go_enter Tryz.func104, Tryz.ntmps104
    go_wp2
    go_loop [10] (fun i => ∃ k : Nat, k ≤ ss.length ∧ i = .int .i64 k ∧ (ss.take k).all okArg = true) (fun i => ss.length - (intOf i).toNat)
    case atStart => exact ⟨0, by omega, rfl, rfl⟩
    case round =>
      obtain ⟨k, hk, rfl, hall⟩ := hrel
      have HALL := hide hall
      clear hall
      by_cases hlt : k < ss.length
      · have hca := (unhide HC) k hlt
        have e := (unhide HA) (by omega)
        subst e
        obtain ⟨s, hs⟩ : ∃ s, s = ss.getD k ByteArray.empty := ⟨_, rfl⟩
        rw [← hs] at hca
        have HS := hide hs
        clear hs
        by_cases hl : s.size ≤ 30
        · obtain ⟨r, hr⟩ : ∃ r, r = Lib.indexByte s.data.toList 0 := ⟨_, rfl⟩
          have HR := hide hr
          clear hr
          by_cases h0 : 0 ≤ r
          · have F := hide (all_false hlt (by rw [← unhide HS]; exact okArg_zero (by rw [← unhide HR]; exact h0)))
            go_wp2_with (go_at_call 122; refine (index_any _ _).mono ?_; rw [← unhide HR]; rintro e w' ⟨rfl, rfl⟩)
            go_ret
            exact ⟨by rw [unhide F]; rfl, rfl⟩
          · have F := hide (all_take hlt (by rw [← unhide HS]; exact okArg_yes hl (by rw [← unhide HR]; omega)) (unhide HALL))
            go_wp2_with (go_at_call 122; refine (index_any _ _).mono ?_; rw [← unhide HR]; rintro e w' ⟨rfl, rfl⟩)
            go_round
            case rel => exact ⟨k + 1, by omega, by go_num, unhide F⟩
            case measure => simp [intOf]; omega
        · have F := hide (all_false hlt (by rw [← unhide HS]; exact okArg_long (by omega)))
          go_wp2_with fail
          go_ret
          exact ⟨by rw [unhide F]; rfl, rfl⟩
      · have F := hide (show ss.all okArg = true by have := unhide HALL; rwa [List.take_of_length_le (by omega)] at this)
        go_wp2
        go_ret
        exact ⟨by rw [unhide F]; rfl, rfl⟩
end Go.Proofs.YtkmbleboceedbaaGreatDoor
