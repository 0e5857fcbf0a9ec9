/- A drawn statement of Counts: region 17, case gn. -/
import Derived.Test.YtbejjindkcjecaaWup
import Derived.Test.YtbejjindkcjecaaRefA
namespace Go.Proofs.Ytbejjindkcjecaa
open Go.RowKit Go
set_option linter.unusedVariables false
set_option linter.unusedSimpArgs false
set_option maxRecDepth 100000 in
set_option maxHeartbeats 8000000 in
theorem c17_gn {Q : Exit → Act → World → Prop} {Z W : World} {u1 u4 u6 u7 u8 u9 u10 u11 u12 u14 u16 u17 u18 u19 u20 u21 u22 u23 u24 u25 u26 u27 u28 u29 u30 u31 u32 u33 u34 u35 u36 u37 u38 u39 u40 u41 u42 u43 u44 u45 u46 u47 u48 u49 u50 u51 u52 u53 u54 u55 u56 u57 u58 u59 u60 u61 u62 u63 u64 u65 u66 u67 u68 u69 u70 u71 u72 u73 u74 u75 u76 u77 u78 u79 u80 u81 u82 u83 u84 u85 u86 u87 u88 u89 u90 u91 u92 u93 u94 u95 u96 u97 u98 u99 u100 u101 u102 u103 u104 u105 u106 u107 u108 u109 u110 u111 u112 u113 u114 u115 u116 u117 u118 u119 u120 u121 u122 u123 u124 u125 u126 u127 u128 u129 u130 u131 u132 u133 u134 u135 u136 u137 u138 u139 u140 u141 u142 u143 u144 u145 u146 u147 u148 u149 u150 u151 u152 u153 u154 u155 u156 u157 u158 u159 u160 u161 u162 u163 u164 u165 u166 u167 u168 u169 u170 u171 u172 u173 u174 u175 u176 u177 u178 u179 u180 u181 u182 u183 u184 u185 u186 u187 u188 u189 u190 u191 : Value} {b o n c i j Bk : Nat} {K0 K1 K2 t q : Int} {f g : FA}
    (HT : Hid (Below Z.heap.size Z W)) (HA : Hid (∀ W, Below Z.heap.size Z W → At8 W b (o + i * 8) f)) (HB : Hid (∀ W, Below Z.heap.size Z W → At8 W b (o + j * 8) g)) (HKC : Hid (∀ W, Below Z.heap.size Z W → W.cell? ⟨Bk, 0, none⟩ = some (.int .i64 K0) ∧ W.cell? ⟨Bk, 1, none⟩ = some (.int .i64 K1) ∧ W.cell? ⟨Bk, 2, none⟩ = some (.int .i64 K2)))
    (HG : Hid (Try.prog.eqGuardType Try.prog.depth 24 = false)) (HCP : Hid (n ≤ c ∧ c ≤ 9223372036854775807)) (HIL : Hid (i < n)) (HJL : Hid (j < n)) 
    (HKG : Hid (∀ w, (Op.equalIn 10000 24 (.agg #[.int .i64 g.kind, .int .i64 g.subj, .int .i64 g.obj]) (KV (K0, K1, K2))).run Try.prog w = .ok true w)) (HF2 : Hid ( g.frm ≤ t)) (HT2 : Hid ( t < g.to)) (HQ2 : Hid ( g.known ≤ q)) (B1 : Hid (∀ W, Calls Try.prog 30 #[FV f, FV g] W fun e w' => e = .returned (.bool false) ∧ Below W.heap.size W w')) (HIJ : Hid ( i < j)) (B2 : Hid (∀ W, Calls Try.prog 30 #[FV g, FV f] W fun e w' => e = .returned (.bool false) ∧ Below W.heap.size W w'))
    (hQ : ∀ W', Below Z.heap.size Z W' → Q .normal { tmps := #[.slice (some ⟨b, o, none⟩) n c, u1, .int .i64 t, .int .i64 q, u4, .pointer (some ⟨Bk, 0, none⟩), u6, u7, u8, u9, u10, u11, u12, .int .i64 (i : Int), u14, .int .i64 (j : Int), u16, u17, u18, u19, u20, u21, u22, u23, u24, u25, u26, u27, u28, u29, u30, u31, u32, u33, u34, u35, u36, u37, u38, u39, u40, u41, u42, u43, u44, u45, u46, u47, u48, u49, u50, u51, u52, u53, u54, u55, u56, u57, u58, u59, u60, u61, u62, u63, u64, u65, u66, u67, u68, u69, u70, u71, u72, u73, u74, u75, u76, u77, u78, u79, u80, u81, u82, u83, u84, u85, u86, u87, u88, u89, .slice (some ⟨b, o, none⟩) n c, .int .i64 (j : Int), .pointer (some ⟨b, o + j * 8, none⟩), .pointer (some ⟨b, o + j * 8, none⟩), .agg #[.int .i64 g.kind, .int .i64 g.subj, .int .i64 g.obj], KV (K0, K1, K2), .bool true, .bool true, .slice (some ⟨b, o, none⟩) n c, .int .i64 (j : Int), .pointer (some ⟨b, o + j * 8, none⟩), .pointer (some ⟨b, o + j * 8 + 4, none⟩), .pointer (some ⟨b, o + j * 8 + 4, none⟩), .int .i64 g.frm, .int .i64 t, .bool true, .bool true, .bool true, .int .i64 t, .slice (some ⟨b, o, none⟩) n c, .int .i64 (j : Int), .pointer (some ⟨b, o + j * 8, none⟩), .pointer (some ⟨b, o + j * 8 + 4, none⟩), .pointer (some ⟨b, o + j * 8 + 5, none⟩), .int .i64 g.to, .bool true, .bool true, .bool true, .slice (some ⟨b, o, none⟩) n c, .int .i64 (j : Int), .pointer (some ⟨b, o + j * 8, none⟩), .pointer (some ⟨b, o + j * 8 + 6, none⟩), .int .i64 g.known, .int .i64 q, .bool true, .bool true, .bool true, .slice (some ⟨b, o, none⟩) n c, .int .i64 (i : Int), .pointer (some ⟨b, o + i * 8, none⟩), FV f, .slice (some ⟨b, o, none⟩) n c, .int .i64 (j : Int), .pointer (some ⟨b, o + j * 8, none⟩), FV g, .bool false, .bool false, .int .i64 (j : Int), .int .i64 (i : Int), .bool true, .bool true, .slice (some ⟨b, o, none⟩) n c, .int .i64 (j : Int), .pointer (some ⟨b, o + j * 8, none⟩), FV g, .slice (some ⟨b, o, none⟩) n c, .int .i64 (i : Int), .pointer (some ⟨b, o + i * 8, none⟩), FV f, .bool false, .bool true, .bool true, .bool true, .bool true, u154, u155, u156, u157, u158, u159, u160, u161, u162, u163, u164, u165, u166, u167, u168, u169, u170, u171, u172, u173, u174, u175, u176, u177, u178, u179, u180, u181, u182, u183, u184, u185, u186, u187, u188, u189, u190, u191], defers := [] } W') :
    (Code.region 17 #[{ dst := some 90, op := Op.move (Operand.tmp 0), type := 22, pos := "law.go:148", after := #[], guard := none }, { dst := some 91, op := Op.move (Operand.tmp 15), type := 3, pos := "law.go:148", after := #[], guard := none }, { dst := some 92, op := Op.indexAddr 22 (Operand.tmp 90) (Operand.tmp 91), type := 0, pos := "law.go:148", after := #[{ on := 0, ground := Ground.data }, { on := 1, ground := Ground.data }], guard := none }, { dst := some 93, op := Op.fieldAddr 28 (Operand.tmp 92) 0, type := 0, pos := "law.go:148", after := #[{ on := 2, ground := Ground.data }], guard := none }, { dst := some 94, op := Op.load 24 (Operand.tmp 93), type := 24, pos := "law.go:148", after := #[{ on := 3, ground := Ground.data }], guard := none }, { dst := some 95, op := Op.load 24 (Operand.tmp 5), type := 24, pos := "law.go:148", after := #[], guard := none }, { dst := some 96, op := Op.binOp BinOp.eql 24 (Operand.tmp 94) (Operand.tmp 95) 24, type := 4, pos := "law.go:148", after := #[{ on := 4, ground := Ground.data }, { on := 5, ground := Ground.data }], guard := none }, { dst := some 97, op := Op.move (Operand.tmp 96), type := 4, pos := "law.go:148", after := #[{ on := 6, ground := Ground.data }], guard := none }, { dst := some 98, op := Op.move (Operand.tmp 0), type := 22, pos := "law.go:148", after := #[{ on := 7, ground := Ground.guard }], guard := some (7, true) }, { dst := some 99, op := Op.move (Operand.tmp 15), type := 3, pos := "law.go:148", after := #[{ on := 7, ground := Ground.guard }], guard := some (7, true) }, { dst := some 100, op := Op.indexAddr 22 (Operand.tmp 98) (Operand.tmp 99), type := 0, pos := "law.go:148", after := #[{ on := 8, ground := Ground.data }, { on := 9, ground := Ground.data }, { on := 7, ground := Ground.guard }], guard := some (7, true) }, { dst := some 101, op := Op.fieldAddr 28 (Operand.tmp 100) 2, type := 0, pos := "law.go:148", after := #[{ on := 10, ground := Ground.data }, { on := 7, ground := Ground.guard }], guard := some (7, true) }, { dst := some 102, op := Op.fieldAddr 26 (Operand.tmp 101) 0, type := 0, pos := "law.go:148", after := #[{ on := 11, ground := Ground.data }, { on := 7, ground := Ground.guard }], guard := some (7, true) }, { dst := some 103, op := Op.load 3 (Operand.tmp 102), type := 3, pos := "law.go:148", after := #[{ on := 12, ground := Ground.data }, { on := 7, ground := Ground.guard }], guard := some (7, true) }, { dst := some 104, op := Op.move (Operand.tmp 2), type := 3, pos := "law.go:148", after := #[{ on := 7, ground := Ground.guard }], guard := some (7, true) }, { dst := some 105, op := Op.binOp BinOp.leq 3 (Operand.tmp 103) (Operand.tmp 104) 3, type := 4, pos := "law.go:148", after := #[{ on := 13, ground := Ground.data }, { on := 14, ground := Ground.data }, { on := 7, ground := Ground.guard }], guard := some (7, true) }, { dst := some 106, op := Op.pick (Operand.tmp 97) (Operand.tmp 105) (Operand.const (Value.bool false)), type := 4, pos := "law.go:148", after := #[{ on := 7, ground := Ground.data }, { on := 15, ground := Ground.data }], guard := none }, { dst := some 107, op := Op.move (Operand.tmp 106), type := 4, pos := "law.go:148", after := #[{ on := 16, ground := Ground.data }, { on := 7, ground := Ground.chain }], guard := none }, { dst := some 108, op := Op.move (Operand.tmp 2), type := 3, pos := "law.go:148", after := #[{ on := 17, ground := Ground.guard }], guard := some (17, true) }, { dst := some 109, op := Op.move (Operand.tmp 0), type := 22, pos := "law.go:148", after := #[{ on := 17, ground := Ground.guard }], guard := some (17, true) }, { dst := some 110, op := Op.move (Operand.tmp 15), type := 3, pos := "law.go:148", after := #[{ on := 17, ground := Ground.guard }], guard := some (17, true) }, { dst := some 111, op := Op.indexAddr 22 (Operand.tmp 109) (Operand.tmp 110), type := 0, pos := "law.go:148", after := #[{ on := 19, ground := Ground.data }, { on := 20, ground := Ground.data }, { on := 17, ground := Ground.guard }], guard := some (17, true) }, { dst := some 112, op := Op.fieldAddr 28 (Operand.tmp 111) 2, type := 0, pos := "law.go:148", after := #[{ on := 21, ground := Ground.data }, { on := 17, ground := Ground.guard }], guard := some (17, true) }, { dst := some 113, op := Op.fieldAddr 26 (Operand.tmp 112) 1, type := 0, pos := "law.go:148", after := #[{ on := 22, ground := Ground.data }, { on := 17, ground := Ground.guard }], guard := some (17, true) }, { dst := some 114, op := Op.load 3 (Operand.tmp 113), type := 3, pos := "law.go:148", after := #[{ on := 23, ground := Ground.data }, { on := 17, ground := Ground.guard }], guard := some (17, true) }, { dst := some 115, op := Op.binOp BinOp.lss 3 (Operand.tmp 108) (Operand.tmp 114) 3, type := 4, pos := "law.go:148", after := #[{ on := 18, ground := Ground.data }, { on := 24, ground := Ground.data }, { on := 17, ground := Ground.guard }], guard := some (17, true) }, { dst := some 116, op := Op.pick (Operand.tmp 107) (Operand.tmp 115) (Operand.const (Value.bool false)), type := 4, pos := "law.go:148", after := #[{ on := 17, ground := Ground.data }, { on := 25, ground := Ground.data }], guard := none }, { dst := some 117, op := Op.move (Operand.tmp 116), type := 4, pos := "law.go:148", after := #[{ on := 26, ground := Ground.data }, { on := 17, ground := Ground.chain }], guard := none }, { dst := some 118, op := Op.move (Operand.tmp 0), type := 22, pos := "law.go:148", after := #[{ on := 27, ground := Ground.guard }], guard := some (27, true) }, { dst := some 119, op := Op.move (Operand.tmp 15), type := 3, pos := "law.go:148", after := #[{ on := 27, ground := Ground.guard }], guard := some (27, true) }, { dst := some 120, op := Op.indexAddr 22 (Operand.tmp 118) (Operand.tmp 119), type := 0, pos := "law.go:148", after := #[{ on := 28, ground := Ground.data }, { on := 29, ground := Ground.data }, { on := 27, ground := Ground.guard }], guard := some (27, true) }, { dst := some 121, op := Op.fieldAddr 28 (Operand.tmp 120) 3, type := 0, pos := "law.go:148", after := #[{ on := 30, ground := Ground.data }, { on := 27, ground := Ground.guard }], guard := some (27, true) }, { dst := some 122, op := Op.load 3 (Operand.tmp 121), type := 3, pos := "law.go:148", after := #[{ on := 31, ground := Ground.data }, { on := 27, ground := Ground.guard }], guard := some (27, true) }, { dst := some 123, op := Op.move (Operand.tmp 3), type := 3, pos := "law.go:148", after := #[{ on := 27, ground := Ground.guard }], guard := some (27, true) }, { dst := some 124, op := Op.binOp BinOp.leq 3 (Operand.tmp 122) (Operand.tmp 123) 3, type := 4, pos := "law.go:148", after := #[{ on := 32, ground := Ground.data }, { on := 33, ground := Ground.data }, { on := 27, ground := Ground.guard }], guard := some (27, true) }, { dst := some 125, op := Op.pick (Operand.tmp 117) (Operand.tmp 124) (Operand.const (Value.bool false)), type := 4, pos := "law.go:148", after := #[{ on := 27, ground := Ground.data }, { on := 34, ground := Ground.data }], guard := none }, { dst := some 126, op := Op.move (Operand.tmp 125), type := 4, pos := "law.go:148", after := #[{ on := 35, ground := Ground.data }, { on := 27, ground := Ground.chain }], guard := none }, { dst := some 127, op := Op.move (Operand.tmp 0), type := 22, pos := "law.go:148", after := #[{ on := 36, ground := Ground.guard }], guard := some (36, true) }, { dst := some 128, op := Op.move (Operand.tmp 13), type := 3, pos := "law.go:148", after := #[{ on := 36, ground := Ground.guard }], guard := some (36, true) }, { dst := some 129, op := Op.indexAddr 22 (Operand.tmp 127) (Operand.tmp 128), type := 0, pos := "law.go:148", after := #[{ on := 37, ground := Ground.data }, { on := 38, ground := Ground.data }, { on := 36, ground := Ground.guard }], guard := some (36, true) }, { dst := some 130, op := Op.load 28 (Operand.tmp 129), type := 28, pos := "law.go:148", after := #[{ on := 39, ground := Ground.data }, { on := 36, ground := Ground.guard }], guard := some (36, true) }, { dst := some 131, op := Op.move (Operand.tmp 0), type := 22, pos := "law.go:148", after := #[{ on := 36, ground := Ground.guard }], guard := some (36, true) }, { dst := some 132, op := Op.move (Operand.tmp 15), type := 3, pos := "law.go:148", after := #[{ on := 36, ground := Ground.guard }], guard := some (36, true) }, { dst := some 133, op := Op.indexAddr 22 (Operand.tmp 131) (Operand.tmp 132), type := 0, pos := "law.go:148", after := #[{ on := 41, ground := Ground.data }, { on := 42, ground := Ground.data }, { on := 36, ground := Ground.guard }], guard := some (36, true) }, { dst := some 134, op := Op.load 28 (Operand.tmp 133), type := 28, pos := "law.go:148", after := #[{ on := 43, ground := Ground.data }, { on := 36, ground := Ground.guard }], guard := some (36, true) }, { dst := some 135, op := Op.call { callee := Callee.value (Operand.func 30), args := #[Operand.tmp 130, Operand.tmp 134], argTypes := #[28, 28] }, type := 4, pos := "law.go:148", after := #[{ on := 40, ground := Ground.data }, { on := 44, ground := Ground.data }, { on := 36, ground := Ground.chain }, { on := 36, ground := Ground.guard }], guard := some (36, true) }, { dst := some 136, op := Op.move (Operand.tmp 135), type := 4, pos := "law.go:148", after := #[{ on := 45, ground := Ground.data }, { on := 45, ground := Ground.chain }, { on := 36, ground := Ground.guard }], guard := some (36, true) }, { dst := some 137, op := Op.move (Operand.tmp 15), type := 3, pos := "law.go:148", after := #[{ on := 46, ground := Ground.guard }], guard := some (46, false) }, { dst := some 138, op := Op.move (Operand.tmp 13), type := 3, pos := "law.go:148", after := #[{ on := 46, ground := Ground.guard }], guard := some (46, false) }, { dst := some 139, op := Op.binOp BinOp.gtr 3 (Operand.tmp 137) (Operand.tmp 138) 3, type := 4, pos := "law.go:148", after := #[{ on := 47, ground := Ground.data }, { on := 48, ground := Ground.data }, { on := 46, ground := Ground.guard }], guard := some (46, false) }, { dst := some 140, op := Op.move (Operand.tmp 139), type := 4, pos := "law.go:148", after := #[{ on := 49, ground := Ground.data }, { on := 46, ground := Ground.chain }, { on := 46, ground := Ground.guard }], guard := some (46, false) }, { dst := some 141, op := Op.move (Operand.tmp 0), type := 22, pos := "law.go:148", after := #[{ on := 50, ground := Ground.guard }], guard := some (50, true) }, { dst := some 142, op := Op.move (Operand.tmp 15), type := 3, pos := "law.go:148", after := #[{ on := 50, ground := Ground.guard }], guard := some (50, true) }, { dst := some 143, op := Op.indexAddr 22 (Operand.tmp 141) (Operand.tmp 142), type := 0, pos := "law.go:148", after := #[{ on := 51, ground := Ground.data }, { on := 52, ground := Ground.data }, { on := 50, ground := Ground.guard }], guard := some (50, true) }, { dst := some 144, op := Op.load 28 (Operand.tmp 143), type := 28, pos := "law.go:148", after := #[{ on := 53, ground := Ground.data }, { on := 50, ground := Ground.guard }], guard := some (50, true) }, { dst := some 145, op := Op.move (Operand.tmp 0), type := 22, pos := "law.go:148", after := #[{ on := 50, ground := Ground.guard }], guard := some (50, true) }, { dst := some 146, op := Op.move (Operand.tmp 13), type := 3, pos := "law.go:148", after := #[{ on := 50, ground := Ground.guard }], guard := some (50, true) }, { dst := some 147, op := Op.indexAddr 22 (Operand.tmp 145) (Operand.tmp 146), type := 0, pos := "law.go:148", after := #[{ on := 55, ground := Ground.data }, { on := 56, ground := Ground.data }, { on := 50, ground := Ground.guard }], guard := some (50, true) }, { dst := some 148, op := Op.load 28 (Operand.tmp 147), type := 28, pos := "law.go:148", after := #[{ on := 57, ground := Ground.data }, { on := 50, ground := Ground.guard }], guard := some (50, true) }, { dst := some 149, op := Op.call { callee := Callee.value (Operand.func 30), args := #[Operand.tmp 144, Operand.tmp 148], argTypes := #[28, 28] }, type := 4, pos := "law.go:148", after := #[{ on := 54, ground := Ground.data }, { on := 58, ground := Ground.data }, { on := 50, ground := Ground.chain }, { on := 50, ground := Ground.guard }], guard := some (50, true) }, { dst := some 150, op := Op.unOp UnOp.not 4 (Operand.tmp 149), type := 4, pos := "law.go:148", after := #[{ on := 59, ground := Ground.data }, { on := 50, ground := Ground.guard }], guard := some (50, true) }, { dst := some 151, op := Op.pick (Operand.tmp 140) (Operand.tmp 150) (Operand.const (Value.bool false)), type := 4, pos := "law.go:148", after := #[{ on := 50, ground := Ground.data }, { on := 60, ground := Ground.data }, { on := 46, ground := Ground.guard }], guard := some (46, false) }, { dst := some 152, op := Op.pick (Operand.tmp 136) (Operand.const (Value.bool true)) (Operand.tmp 151), type := 4, pos := "law.go:148", after := #[{ on := 46, ground := Ground.data }, { on := 61, ground := Ground.data }, { on := 36, ground := Ground.guard }], guard := some (36, true) }, { dst := some 153, op := Op.pick (Operand.tmp 126) (Operand.tmp 152) (Operand.const (Value.bool false)), type := 4, pos := "law.go:148", after := #[{ on := 36, ground := Ground.data }, { on := 62, ground := Ground.data }], guard := none }] true).wp Try.prog Q { tmps := #[.slice (some ⟨b, o, none⟩) n c, u1, .int .i64 t, .int .i64 q, u4, .pointer (some ⟨Bk, 0, none⟩), u6, u7, u8, u9, u10, u11, u12, .int .i64 (i : Int), u14, .int .i64 (j : Int), u16, u17, u18, u19, u20, u21, u22, u23, u24, u25, u26, u27, u28, u29, u30, u31, u32, u33, u34, u35, u36, u37, u38, u39, u40, u41, u42, u43, u44, u45, u46, u47, u48, u49, u50, u51, u52, u53, u54, u55, u56, u57, u58, u59, u60, u61, u62, u63, u64, u65, u66, u67, u68, u69, u70, u71, u72, u73, u74, u75, u76, u77, u78, u79, u80, u81, u82, u83, u84, u85, u86, u87, u88, u89, u90, u91, u92, u93, u94, u95, u96, u97, u98, u99, u100, u101, u102, u103, u104, u105, u106, u107, u108, u109, u110, u111, u112, u113, u114, u115, u116, u117, u118, u119, u120, u121, u122, u123, u124, u125, u126, u127, u128, u129, u130, u131, u132, u133, u134, u135, u136, u137, u138, u139, u140, u141, u142, u143, u144, u145, u146, u147, u148, u149, u150, u151, u152, u153, u154, u155, u156, u157, u158, u159, u160, u161, u162, u163, u164, u165, u166, u167, u168, u169, u170, u171, u172, u173, u174, u175, u176, u177, u178, u179, u180, u181, u182, u183, u184, u185, u186, u187, u188, u189, u190, u191], defers := [] } W := by
  have HQQ := hid hQ
  clear hQ
  have HT := hid HT.out.drew
  refine wa_start (S := fun W => Below Z.heap.size Z W) (by kernel_rfl) HT.out ?_
  refine wa_tk 0 (some 90) (.slice (some ⟨b, o, none⟩) n c) rfl (by kernel_rfl) rfl rfl HT.out (fun w h0 => by go_simp) ?_
  try simp only [Act.put, List.setIfInBounds_toArray, List.set_cons_zero, List.set_cons_succ]
  refine wa_tk 1 (some 91) (.int .i64 (j : Int)) rfl (by kernel_rfl) rfl rfl HT.out (fun w h0 => by go_simp) ?_
  try simp only [Act.put, List.setIfInBounds_toArray, List.set_cons_zero, List.set_cons_succ]
  refine wa_tk 2 (some 92) (.pointer (some ⟨b, o + j * 8, none⟩)) rfl (by kernel_rfl) rfl rfl HT.out (fun w h0 => by have hj := HJL.out; have hc := HCP.out; go_simp) ?_
  try simp only [Act.put, List.setIfInBounds_toArray, List.set_cons_zero, List.set_cons_succ]
  refine wa_tk 3 (some 93) (.pointer (some ⟨b, o + j * 8, none⟩)) rfl (by kernel_rfl) rfl rfl HT.out (fun w h0 => by go_simp) ?_
  try simp only [Act.put, List.setIfInBounds_toArray, List.set_cons_zero, List.set_cons_succ]
  refine wa_tk 4 (some 94) (.agg #[.int .i64 g.kind, .int .i64 g.subj, .int .i64 g.obj]) rfl (by kernel_rfl) rfl rfl HT.out (fun w h0 => by obtain ⟨x0, x1, x2, x3, x4, x5, x6, x7⟩ := HB.out _ h0; go_simp) ?_
  try simp only [Act.put, List.setIfInBounds_toArray, List.set_cons_zero, List.set_cons_succ]
  refine wa_tk 5 (some 95) (KV (K0, K1, K2)) rfl (by kernel_rfl) rfl rfl HT.out (fun w h0 => by obtain ⟨u0, u1, u2⟩ := HKC.out _ h0; go_simp) ?_
  try simp only [Act.put, List.setIfInBounds_toArray, List.set_cons_zero, List.set_cons_succ]
  refine wa_tk 6 (some 96) (.bool true) rfl (by kernel_rfl) rfl rfl HT.out (fun w h0 => by have hpe := HKG.out; have hg60 := HG.out; go_simp) ?_
  try simp only [Act.put, List.setIfInBounds_toArray, List.set_cons_zero, List.set_cons_succ]
  refine wa_tk 7 (some 97) (.bool true) rfl (by kernel_rfl) rfl rfl HT.out (fun w h0 => by go_simp) ?_
  try simp only [Act.put, List.setIfInBounds_toArray, List.set_cons_zero, List.set_cons_succ]
  refine wa_tkg 8 (some 98) (.slice (some ⟨b, o, none⟩) n c) rfl (by kernel_rfl) rfl rfl HT.out (fun w h0 => by go_simp) ?_
  try simp only [Act.put, List.setIfInBounds_toArray, List.set_cons_zero, List.set_cons_succ]
  refine wa_tkg 9 (some 99) (.int .i64 (j : Int)) rfl (by kernel_rfl) rfl rfl HT.out (fun w h0 => by go_simp) ?_
  try simp only [Act.put, List.setIfInBounds_toArray, List.set_cons_zero, List.set_cons_succ]
  refine wa_tkg 10 (some 100) (.pointer (some ⟨b, o + j * 8, none⟩)) rfl (by kernel_rfl) rfl rfl HT.out (fun w h0 => by have hj := HJL.out; have hc := HCP.out; go_simp) ?_
  try simp only [Act.put, List.setIfInBounds_toArray, List.set_cons_zero, List.set_cons_succ]
  refine wa_tkg 11 (some 101) (.pointer (some ⟨b, o + j * 8 + 4, none⟩)) rfl (by kernel_rfl) rfl rfl HT.out (fun w h0 => by go_simp) ?_
  try simp only [Act.put, List.setIfInBounds_toArray, List.set_cons_zero, List.set_cons_succ]
  refine wa_tkg 12 (some 102) (.pointer (some ⟨b, o + j * 8 + 4, none⟩)) rfl (by kernel_rfl) rfl rfl HT.out (fun w h0 => by go_simp) ?_
  try simp only [Act.put, List.setIfInBounds_toArray, List.set_cons_zero, List.set_cons_succ]
  refine wa_tkg 13 (some 103) (.int .i64 g.frm) rfl (by kernel_rfl) rfl rfl HT.out (fun w h0 => by obtain ⟨x0, x1, x2, x3, x4, x5, x6, x7⟩ := HB.out _ h0; go_simp) ?_
  try simp only [Act.put, List.setIfInBounds_toArray, List.set_cons_zero, List.set_cons_succ]
  refine wa_tkg 14 (some 104) (.int .i64 t) rfl (by kernel_rfl) rfl rfl HT.out (fun w h0 => by go_simp) ?_
  try simp only [Act.put, List.setIfInBounds_toArray, List.set_cons_zero, List.set_cons_succ]
  refine wa_tkg 15 (some 105) (.bool true) rfl (by kernel_rfl) rfl rfl HT.out (fun w h0 => by have hcmp := HF2.out; (go_simp) <;> omega) ?_
  try simp only [Act.put, List.setIfInBounds_toArray, List.set_cons_zero, List.set_cons_succ]
  refine wa_tk 16 (some 106) (.bool true) rfl (by kernel_rfl) rfl rfl HT.out (fun w h0 => by go_simp) ?_
  try simp only [Act.put, List.setIfInBounds_toArray, List.set_cons_zero, List.set_cons_succ]
  refine wa_tk 17 (some 107) (.bool true) rfl (by kernel_rfl) rfl rfl HT.out (fun w h0 => by go_simp) ?_
  try simp only [Act.put, List.setIfInBounds_toArray, List.set_cons_zero, List.set_cons_succ]
  refine wa_tkg 18 (some 108) (.int .i64 t) rfl (by kernel_rfl) rfl rfl HT.out (fun w h0 => by go_simp) ?_
  try simp only [Act.put, List.setIfInBounds_toArray, List.set_cons_zero, List.set_cons_succ]
  refine wa_tkg 19 (some 109) (.slice (some ⟨b, o, none⟩) n c) rfl (by kernel_rfl) rfl rfl HT.out (fun w h0 => by go_simp) ?_
  try simp only [Act.put, List.setIfInBounds_toArray, List.set_cons_zero, List.set_cons_succ]
  refine wa_tkg 20 (some 110) (.int .i64 (j : Int)) rfl (by kernel_rfl) rfl rfl HT.out (fun w h0 => by go_simp) ?_
  try simp only [Act.put, List.setIfInBounds_toArray, List.set_cons_zero, List.set_cons_succ]
  refine wa_tkg 21 (some 111) (.pointer (some ⟨b, o + j * 8, none⟩)) rfl (by kernel_rfl) rfl rfl HT.out (fun w h0 => by have hj := HJL.out; have hc := HCP.out; go_simp) ?_
  try simp only [Act.put, List.setIfInBounds_toArray, List.set_cons_zero, List.set_cons_succ]
  refine wa_tkg 22 (some 112) (.pointer (some ⟨b, o + j * 8 + 4, none⟩)) rfl (by kernel_rfl) rfl rfl HT.out (fun w h0 => by go_simp) ?_
  try simp only [Act.put, List.setIfInBounds_toArray, List.set_cons_zero, List.set_cons_succ]
  refine wa_tkg 23 (some 113) (.pointer (some ⟨b, o + j * 8 + 5, none⟩)) rfl (by kernel_rfl) rfl rfl HT.out (fun w h0 => by go_simp) ?_
  try simp only [Act.put, List.setIfInBounds_toArray, List.set_cons_zero, List.set_cons_succ]
  refine wa_tkg 24 (some 114) (.int .i64 g.to) rfl (by kernel_rfl) rfl rfl HT.out (fun w h0 => by obtain ⟨x0, x1, x2, x3, x4, x5, x6, x7⟩ := HB.out _ h0; go_simp) ?_
  try simp only [Act.put, List.setIfInBounds_toArray, List.set_cons_zero, List.set_cons_succ]
  refine wa_tkg 25 (some 115) (.bool true) rfl (by kernel_rfl) rfl rfl HT.out (fun w h0 => by have hcmp := HT2.out; (go_simp) <;> omega) ?_
  try simp only [Act.put, List.setIfInBounds_toArray, List.set_cons_zero, List.set_cons_succ]
  refine wa_tk 26 (some 116) (.bool true) rfl (by kernel_rfl) rfl rfl HT.out (fun w h0 => by go_simp) ?_
  try simp only [Act.put, List.setIfInBounds_toArray, List.set_cons_zero, List.set_cons_succ]
  refine wa_tk 27 (some 117) (.bool true) rfl (by kernel_rfl) rfl rfl HT.out (fun w h0 => by go_simp) ?_
  try simp only [Act.put, List.setIfInBounds_toArray, List.set_cons_zero, List.set_cons_succ]
  refine wa_tkg 28 (some 118) (.slice (some ⟨b, o, none⟩) n c) rfl (by kernel_rfl) rfl rfl HT.out (fun w h0 => by go_simp) ?_
  try simp only [Act.put, List.setIfInBounds_toArray, List.set_cons_zero, List.set_cons_succ]
  refine wa_tkg 29 (some 119) (.int .i64 (j : Int)) rfl (by kernel_rfl) rfl rfl HT.out (fun w h0 => by go_simp) ?_
  try simp only [Act.put, List.setIfInBounds_toArray, List.set_cons_zero, List.set_cons_succ]
  refine wa_tkg 30 (some 120) (.pointer (some ⟨b, o + j * 8, none⟩)) rfl (by kernel_rfl) rfl rfl HT.out (fun w h0 => by have hj := HJL.out; have hc := HCP.out; go_simp) ?_
  try simp only [Act.put, List.setIfInBounds_toArray, List.set_cons_zero, List.set_cons_succ]
  refine wa_tkg 31 (some 121) (.pointer (some ⟨b, o + j * 8 + 6, none⟩)) rfl (by kernel_rfl) rfl rfl HT.out (fun w h0 => by go_simp) ?_
  try simp only [Act.put, List.setIfInBounds_toArray, List.set_cons_zero, List.set_cons_succ]
  refine wa_tkg 32 (some 122) (.int .i64 g.known) rfl (by kernel_rfl) rfl rfl HT.out (fun w h0 => by obtain ⟨x0, x1, x2, x3, x4, x5, x6, x7⟩ := HB.out _ h0; go_simp) ?_
  try simp only [Act.put, List.setIfInBounds_toArray, List.set_cons_zero, List.set_cons_succ]
  refine wa_tkg 33 (some 123) (.int .i64 q) rfl (by kernel_rfl) rfl rfl HT.out (fun w h0 => by go_simp) ?_
  try simp only [Act.put, List.setIfInBounds_toArray, List.set_cons_zero, List.set_cons_succ]
  refine wa_tkg 34 (some 124) (.bool true) rfl (by kernel_rfl) rfl rfl HT.out (fun w h0 => by have hcmp := HQ2.out; (go_simp) <;> omega) ?_
  try simp only [Act.put, List.setIfInBounds_toArray, List.set_cons_zero, List.set_cons_succ]
  refine wa_tk 35 (some 125) (.bool true) rfl (by kernel_rfl) rfl rfl HT.out (fun w h0 => by go_simp) ?_
  try simp only [Act.put, List.setIfInBounds_toArray, List.set_cons_zero, List.set_cons_succ]
  refine wa_tk 36 (some 126) (.bool true) rfl (by kernel_rfl) rfl rfl HT.out (fun w h0 => by go_simp) ?_
  try simp only [Act.put, List.setIfInBounds_toArray, List.set_cons_zero, List.set_cons_succ]
  refine wa_tkg 37 (some 127) (.slice (some ⟨b, o, none⟩) n c) rfl (by kernel_rfl) rfl rfl HT.out (fun w h0 => by go_simp) ?_
  try simp only [Act.put, List.setIfInBounds_toArray, List.set_cons_zero, List.set_cons_succ]
  refine wa_tkg 38 (some 128) (.int .i64 (i : Int)) rfl (by kernel_rfl) rfl rfl HT.out (fun w h0 => by go_simp) ?_
  try simp only [Act.put, List.setIfInBounds_toArray, List.set_cons_zero, List.set_cons_succ]
  refine wa_tkg 39 (some 129) (.pointer (some ⟨b, o + i * 8, none⟩)) rfl (by kernel_rfl) rfl rfl HT.out (fun w h0 => by have hi := HIL.out; have hc := HCP.out; go_simp) ?_
  try simp only [Act.put, List.setIfInBounds_toArray, List.set_cons_zero, List.set_cons_succ]
  refine wa_tkg 40 (some 130) (FV f) rfl (by kernel_rfl) rfl rfl HT.out (fun w h0 => by obtain ⟨x0, x1, x2, x3, x4, x5, x6, x7⟩ := HA.out _ h0; go_simp) ?_
  try simp only [Act.put, List.setIfInBounds_toArray, List.set_cons_zero, List.set_cons_succ]
  refine wa_tkg 41 (some 131) (.slice (some ⟨b, o, none⟩) n c) rfl (by kernel_rfl) rfl rfl HT.out (fun w h0 => by go_simp) ?_
  try simp only [Act.put, List.setIfInBounds_toArray, List.set_cons_zero, List.set_cons_succ]
  refine wa_tkg 42 (some 132) (.int .i64 (j : Int)) rfl (by kernel_rfl) rfl rfl HT.out (fun w h0 => by go_simp) ?_
  try simp only [Act.put, List.setIfInBounds_toArray, List.set_cons_zero, List.set_cons_succ]
  refine wa_tkg 43 (some 133) (.pointer (some ⟨b, o + j * 8, none⟩)) rfl (by kernel_rfl) rfl rfl HT.out (fun w h0 => by have hj := HJL.out; have hc := HCP.out; go_simp) ?_
  try simp only [Act.put, List.setIfInBounds_toArray, List.set_cons_zero, List.set_cons_succ]
  refine wa_tkg 44 (some 134) (FV g) rfl (by kernel_rfl) rfl rfl HT.out (fun w h0 => by obtain ⟨x0, x1, x2, x3, x4, x5, x6, x7⟩ := HB.out _ h0; go_simp) ?_
  try simp only [Act.put, List.setIfInBounds_toArray, List.set_cons_zero, List.set_cons_succ]
  refine wa_branch [45] (by decide +kernel) rfl ?_
  refine ar_opg 45 rfl rfl (fun K hK => ?_) ar_nil
  unfold Oper.wp
  go_simp
  go_at_call 30
  refine (B1.out _).mono ?_
  rintro e wz ⟨rfl, hbz⟩
  have HT := hid (below_t HT.out hbz)
  clear hbz
  go_simp
  refine hK.out _ _ HT.out ?_
  clear hK K
  try simp only [Act.put, List.setIfInBounds_toArray, List.set_cons_zero, List.set_cons_succ]
  refine wa_tkg 46 (some 136) (.bool false) rfl (by kernel_rfl) rfl rfl HT.out (fun w h0 => by go_simp) ?_
  try simp only [Act.put, List.setIfInBounds_toArray, List.set_cons_zero, List.set_cons_succ]
  refine wa_tkg 47 (some 137) (.int .i64 (j : Int)) rfl (by kernel_rfl) rfl rfl HT.out (fun w h0 => by go_simp) ?_
  try simp only [Act.put, List.setIfInBounds_toArray, List.set_cons_zero, List.set_cons_succ]
  refine wa_tkg 48 (some 138) (.int .i64 (i : Int)) rfl (by kernel_rfl) rfl rfl HT.out (fun w h0 => by go_simp) ?_
  try simp only [Act.put, List.setIfInBounds_toArray, List.set_cons_zero, List.set_cons_succ]
  refine wa_tkg 49 (some 139) (.bool true) rfl (by kernel_rfl) rfl rfl HT.out (fun w h0 => by have hcmp := HIJ.out; (go_simp) <;> omega) ?_
  try simp only [Act.put, List.setIfInBounds_toArray, List.set_cons_zero, List.set_cons_succ]
  refine wa_tkg 50 (some 140) (.bool true) rfl (by kernel_rfl) rfl rfl HT.out (fun w h0 => by go_simp) ?_
  try simp only [Act.put, List.setIfInBounds_toArray, List.set_cons_zero, List.set_cons_succ]
  refine wa_tkg 51 (some 141) (.slice (some ⟨b, o, none⟩) n c) rfl (by kernel_rfl) rfl rfl HT.out (fun w h0 => by go_simp) ?_
  try simp only [Act.put, List.setIfInBounds_toArray, List.set_cons_zero, List.set_cons_succ]
  refine wa_tkg 52 (some 142) (.int .i64 (j : Int)) rfl (by kernel_rfl) rfl rfl HT.out (fun w h0 => by go_simp) ?_
  try simp only [Act.put, List.setIfInBounds_toArray, List.set_cons_zero, List.set_cons_succ]
  refine wa_tkg 53 (some 143) (.pointer (some ⟨b, o + j * 8, none⟩)) rfl (by kernel_rfl) rfl rfl HT.out (fun w h0 => by have hj := HJL.out; have hc := HCP.out; go_simp) ?_
  try simp only [Act.put, List.setIfInBounds_toArray, List.set_cons_zero, List.set_cons_succ]
  refine wa_tkg 54 (some 144) (FV g) rfl (by kernel_rfl) rfl rfl HT.out (fun w h0 => by obtain ⟨x0, x1, x2, x3, x4, x5, x6, x7⟩ := HB.out _ h0; go_simp) ?_
  try simp only [Act.put, List.setIfInBounds_toArray, List.set_cons_zero, List.set_cons_succ]
  refine wa_tkg 55 (some 145) (.slice (some ⟨b, o, none⟩) n c) rfl (by kernel_rfl) rfl rfl HT.out (fun w h0 => by go_simp) ?_
  try simp only [Act.put, List.setIfInBounds_toArray, List.set_cons_zero, List.set_cons_succ]
  refine wa_tkg 56 (some 146) (.int .i64 (i : Int)) rfl (by kernel_rfl) rfl rfl HT.out (fun w h0 => by go_simp) ?_
  try simp only [Act.put, List.setIfInBounds_toArray, List.set_cons_zero, List.set_cons_succ]
  refine wa_tkg 57 (some 147) (.pointer (some ⟨b, o + i * 8, none⟩)) rfl (by kernel_rfl) rfl rfl HT.out (fun w h0 => by have hi := HIL.out; have hc := HCP.out; go_simp) ?_
  try simp only [Act.put, List.setIfInBounds_toArray, List.set_cons_zero, List.set_cons_succ]
  refine wa_tkg 58 (some 148) (FV f) rfl (by kernel_rfl) rfl rfl HT.out (fun w h0 => by obtain ⟨x0, x1, x2, x3, x4, x5, x6, x7⟩ := HA.out _ h0; go_simp) ?_
  try simp only [Act.put, List.setIfInBounds_toArray, List.set_cons_zero, List.set_cons_succ]
  refine wa_branch [59] (by decide +kernel) rfl ?_
  refine ar_opg 59 rfl rfl (fun K hK => ?_) ar_nil
  unfold Oper.wp
  go_simp
  go_at_call 30
  refine (B2.out _).mono ?_
  rintro e wz ⟨rfl, hbz⟩
  have HT := hid (below_t HT.out hbz)
  clear hbz
  go_simp
  refine hK.out _ _ HT.out ?_
  clear hK K
  try simp only [Act.put, List.setIfInBounds_toArray, List.set_cons_zero, List.set_cons_succ]
  refine wa_tkg 60 (some 150) (.bool true) rfl (by kernel_rfl) rfl rfl HT.out (fun w h0 => by go_simp) ?_
  try simp only [Act.put, List.setIfInBounds_toArray, List.set_cons_zero, List.set_cons_succ]
  refine wa_tkg 61 (some 151) (.bool true) rfl (by kernel_rfl) rfl rfl HT.out (fun w h0 => by go_simp) ?_
  try simp only [Act.put, List.setIfInBounds_toArray, List.set_cons_zero, List.set_cons_succ]
  refine wa_tkg 62 (some 152) (.bool true) rfl (by kernel_rfl) rfl rfl HT.out (fun w h0 => by go_simp) ?_
  try simp only [Act.put, List.setIfInBounds_toArray, List.set_cons_zero, List.set_cons_succ]
  refine wa_tk 63 (some 153) (.bool true) rfl (by kernel_rfl) rfl rfl HT.out (fun w h0 => by go_simp) ?_
  try simp only [Act.put, List.setIfInBounds_toArray, List.set_cons_zero, List.set_cons_succ]
  refine wa_done (by decide +kernel) ?_
  exact HQQ.out _ HT.out
end Go.Proofs.Ytbejjindkcjecaa
