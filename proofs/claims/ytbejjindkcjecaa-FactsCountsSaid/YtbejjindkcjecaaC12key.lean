/- A drawn statement of Counts: region 12, case key. -/
import Derived.Test.YtbejjindkcjecaaWup
import Derived.Test.YtbejjindkcjecaaRefA
namespace Go.Proofs.Ytbejjindkcjecaa
open Go.RowKit Go
set_option linter.unusedVariables false
set_option linter.unusedSimpArgs false
set_option maxRecDepth 100000 in
set_option maxHeartbeats 8000000 in
theorem c12_key {Q : Exit → Act → World → Prop} {Z W : World} {u1 u4 u6 u7 u8 u9 u10 u11 u12 u14 u15 u16 u17 u18 u19 u20 u21 u22 u23 u24 u25 u26 u27 u28 u29 u30 u31 u32 u33 u34 u35 u36 u37 u38 u39 u40 u41 u42 u43 u44 u45 u46 u47 u48 u49 u50 u51 u52 u53 u54 u55 u56 u57 u58 u59 u60 u61 u62 u63 u64 u65 u66 u67 u68 u69 u70 u71 u72 u73 u74 u75 u76 u77 u78 u79 u80 u81 u82 u83 u84 u85 u86 u87 u88 u89 u90 u91 u92 u93 u94 u95 u96 u97 u98 u99 u100 u101 u102 u103 u104 u105 u106 u107 u108 u109 u110 u111 u112 u113 u114 u115 u116 u117 u118 u119 u120 u121 u122 u123 u124 u125 u126 u127 u128 u129 u130 u131 u132 u133 u134 u135 u136 u137 u138 u139 u140 u141 u142 u143 u144 u145 u146 u147 u148 u149 u150 u151 u152 u153 u154 u155 u156 u157 u158 u159 u160 u161 u162 u163 u164 u165 u166 u167 u168 u169 u170 u171 u172 u173 u174 u175 u176 u177 u178 u179 u180 u181 u182 u183 u184 u185 u186 u187 u188 u189 u190 u191 : Value} {b o n c i Bk : Nat} {K0 K1 K2 t q : Int} {f : FA}
    (HT : Hid (Below Z.heap.size Z W)) (HA : Hid (∀ W, Below Z.heap.size Z W → At8 W b (o + i * 8) f))  (HKC : Hid (∀ W, Below Z.heap.size Z W → W.cell? ⟨Bk, 0, none⟩ = some (.int .i64 K0) ∧ W.cell? ⟨Bk, 1, none⟩ = some (.int .i64 K1) ∧ W.cell? ⟨Bk, 2, none⟩ = some (.int .i64 K2)))
    (HG : Hid (Try.prog.eqGuardType Try.prog.depth 24 = false)) (HCP : Hid (n ≤ c ∧ c ≤ 9223372036854775807)) (HIL : Hid (i < n)) 
    (HKE : Hid (∀ w, (Op.equalIn 10000 24 (.agg #[.int .i64 f.kind, .int .i64 f.subj, .int .i64 f.obj]) (KV (K0, K1, K2))).run Try.prog w = .ok false w))
    (hQ : ∀ W', Below Z.heap.size Z W' → Q .normal { tmps := #[.slice (some ⟨b, o, none⟩) n c, u1, .int .i64 t, .int .i64 q, u4, .pointer (some ⟨Bk, 0, none⟩), u6, u7, u8, u9, u10, u11, u12, .int .i64 (i : Int), u14, u15, u16, u17, u18, u19, u20, u21, u22, u23, u24, u25, u26, u27, u28, u29, u30, u31, u32, u33, u34, u35, u36, u37, u38, u39, u40, u41, u42, u43, u44, u45, u46, u47, .slice (some ⟨b, o, none⟩) n c, .int .i64 (i : Int), .pointer (some ⟨b, o + i * 8, none⟩), .pointer (some ⟨b, o + i * 8, none⟩), .agg #[.int .i64 f.kind, .int .i64 f.subj, .int .i64 f.obj], KV (K0, K1, K2), .bool true, .bool true, undef, undef, undef, undef, undef, undef, undef, undef, .bool true, .bool true, undef, undef, undef, undef, undef, undef, undef, undef, .bool true, .bool true, undef, undef, undef, undef, undef, undef, undef, .bool true, u84, u85, u86, u87, u88, u89, u90, u91, u92, u93, u94, u95, u96, u97, u98, u99, u100, u101, u102, u103, u104, u105, u106, u107, u108, u109, u110, u111, u112, u113, u114, u115, u116, u117, u118, u119, u120, u121, u122, u123, u124, u125, u126, u127, u128, u129, u130, u131, u132, u133, u134, u135, u136, u137, u138, u139, u140, u141, u142, u143, u144, u145, u146, u147, u148, u149, u150, u151, u152, u153, u154, u155, u156, u157, u158, u159, u160, u161, u162, u163, u164, u165, u166, u167, u168, u169, u170, u171, u172, u173, u174, u175, u176, u177, u178, u179, u180, u181, u182, u183, u184, u185, u186, u187, u188, u189, u190, u191], defers := [] } W') :
    (Code.region 12 #[{ dst := some 48, op := Op.move (Operand.tmp 0), type := 22, pos := "law.go:143", after := #[], guard := none }, { dst := some 49, op := Op.move (Operand.tmp 13), type := 3, pos := "law.go:143", after := #[], guard := none }, { dst := some 50, op := Op.indexAddr 22 (Operand.tmp 48) (Operand.tmp 49), type := 0, pos := "law.go:143", after := #[{ on := 0, ground := Ground.data }, { on := 1, ground := Ground.data }], guard := none }, { dst := some 51, op := Op.fieldAddr 28 (Operand.tmp 50) 0, type := 0, pos := "law.go:143", after := #[{ on := 2, ground := Ground.data }], guard := none }, { dst := some 52, op := Op.load 24 (Operand.tmp 51), type := 24, pos := "law.go:143", after := #[{ on := 3, ground := Ground.data }], guard := none }, { dst := some 53, op := Op.load 24 (Operand.tmp 5), type := 24, pos := "law.go:143", after := #[], guard := none }, { dst := some 54, op := Op.binOp BinOp.neq 24 (Operand.tmp 52) (Operand.tmp 53) 24, type := 4, pos := "law.go:143", after := #[{ on := 4, ground := Ground.data }, { on := 5, ground := Ground.data }], guard := none }, { dst := some 55, op := Op.move (Operand.tmp 54), type := 4, pos := "law.go:143", after := #[{ on := 6, ground := Ground.data }], guard := none }, { dst := some 56, op := Op.move (Operand.tmp 0), type := 22, pos := "law.go:143", after := #[{ on := 7, ground := Ground.guard }], guard := some (7, false) }, { dst := some 57, op := Op.move (Operand.tmp 13), type := 3, pos := "law.go:143", after := #[{ on := 7, ground := Ground.guard }], guard := some (7, false) }, { dst := some 58, op := Op.indexAddr 22 (Operand.tmp 56) (Operand.tmp 57), type := 0, pos := "law.go:143", after := #[{ on := 8, ground := Ground.data }, { on := 9, ground := Ground.data }, { on := 7, ground := Ground.guard }], guard := some (7, false) }, { dst := some 59, op := Op.fieldAddr 28 (Operand.tmp 58) 2, type := 0, pos := "law.go:143", after := #[{ on := 10, ground := Ground.data }, { on := 7, ground := Ground.guard }], guard := some (7, false) }, { dst := some 60, op := Op.fieldAddr 26 (Operand.tmp 59) 0, type := 0, pos := "law.go:143", after := #[{ on := 11, ground := Ground.data }, { on := 7, ground := Ground.guard }], guard := some (7, false) }, { dst := some 61, op := Op.load 3 (Operand.tmp 60), type := 3, pos := "law.go:143", after := #[{ on := 12, ground := Ground.data }, { on := 7, ground := Ground.guard }], guard := some (7, false) }, { dst := some 62, op := Op.move (Operand.tmp 2), type := 3, pos := "law.go:143", after := #[{ on := 7, ground := Ground.guard }], guard := some (7, false) }, { dst := some 63, op := Op.binOp BinOp.gtr 3 (Operand.tmp 61) (Operand.tmp 62) 3, type := 4, pos := "law.go:143", after := #[{ on := 13, ground := Ground.data }, { on := 14, ground := Ground.data }, { on := 7, ground := Ground.guard }], guard := some (7, false) }, { dst := some 64, op := Op.pick (Operand.tmp 55) (Operand.const (Value.bool true)) (Operand.tmp 63), type := 4, pos := "law.go:143", after := #[{ on := 7, ground := Ground.data }, { on := 15, ground := Ground.data }], guard := none }, { dst := some 65, op := Op.move (Operand.tmp 64), type := 4, pos := "law.go:143", after := #[{ on := 16, ground := Ground.data }, { on := 7, ground := Ground.chain }], guard := none }, { dst := some 66, op := Op.move (Operand.tmp 0), type := 22, pos := "law.go:143", after := #[{ on := 17, ground := Ground.guard }], guard := some (17, false) }, { dst := some 67, op := Op.move (Operand.tmp 13), type := 3, pos := "law.go:143", after := #[{ on := 17, ground := Ground.guard }], guard := some (17, false) }, { dst := some 68, op := Op.indexAddr 22 (Operand.tmp 66) (Operand.tmp 67), type := 0, pos := "law.go:143", after := #[{ on := 18, ground := Ground.data }, { on := 19, ground := Ground.data }, { on := 17, ground := Ground.guard }], guard := some (17, false) }, { dst := some 69, op := Op.fieldAddr 28 (Operand.tmp 68) 2, type := 0, pos := "law.go:143", after := #[{ on := 20, ground := Ground.data }, { on := 17, ground := Ground.guard }], guard := some (17, false) }, { dst := some 70, op := Op.fieldAddr 26 (Operand.tmp 69) 1, type := 0, pos := "law.go:143", after := #[{ on := 21, ground := Ground.data }, { on := 17, ground := Ground.guard }], guard := some (17, false) }, { dst := some 71, op := Op.load 3 (Operand.tmp 70), type := 3, pos := "law.go:143", after := #[{ on := 22, ground := Ground.data }, { on := 17, ground := Ground.guard }], guard := some (17, false) }, { dst := some 72, op := Op.move (Operand.tmp 2), type := 3, pos := "law.go:143", after := #[{ on := 17, ground := Ground.guard }], guard := some (17, false) }, { dst := some 73, op := Op.binOp BinOp.leq 3 (Operand.tmp 71) (Operand.tmp 72) 3, type := 4, pos := "law.go:143", after := #[{ on := 23, ground := Ground.data }, { on := 24, ground := Ground.data }, { on := 17, ground := Ground.guard }], guard := some (17, false) }, { dst := some 74, op := Op.pick (Operand.tmp 65) (Operand.const (Value.bool true)) (Operand.tmp 73), type := 4, pos := "law.go:143", after := #[{ on := 17, ground := Ground.data }, { on := 25, ground := Ground.data }], guard := none }, { dst := some 75, op := Op.move (Operand.tmp 74), type := 4, pos := "law.go:143", after := #[{ on := 26, ground := Ground.data }, { on := 17, ground := Ground.chain }], guard := none }, { dst := some 76, op := Op.move (Operand.tmp 0), type := 22, pos := "law.go:143", after := #[{ on := 27, ground := Ground.guard }], guard := some (27, false) }, { dst := some 77, op := Op.move (Operand.tmp 13), type := 3, pos := "law.go:143", after := #[{ on := 27, ground := Ground.guard }], guard := some (27, false) }, { dst := some 78, op := Op.indexAddr 22 (Operand.tmp 76) (Operand.tmp 77), type := 0, pos := "law.go:143", after := #[{ on := 28, ground := Ground.data }, { on := 29, ground := Ground.data }, { on := 27, ground := Ground.guard }], guard := some (27, false) }, { dst := some 79, op := Op.fieldAddr 28 (Operand.tmp 78) 3, type := 0, pos := "law.go:143", after := #[{ on := 30, ground := Ground.data }, { on := 27, ground := Ground.guard }], guard := some (27, false) }, { dst := some 80, op := Op.load 3 (Operand.tmp 79), type := 3, pos := "law.go:143", after := #[{ on := 31, ground := Ground.data }, { on := 27, ground := Ground.guard }], guard := some (27, false) }, { dst := some 81, op := Op.move (Operand.tmp 3), type := 3, pos := "law.go:143", after := #[{ on := 27, ground := Ground.guard }], guard := some (27, false) }, { dst := some 82, op := Op.binOp BinOp.gtr 3 (Operand.tmp 80) (Operand.tmp 81) 3, type := 4, pos := "law.go:143", after := #[{ on := 32, ground := Ground.data }, { on := 33, ground := Ground.data }, { on := 27, ground := Ground.guard }], guard := some (27, false) }, { dst := some 83, op := Op.pick (Operand.tmp 75) (Operand.const (Value.bool true)) (Operand.tmp 82), type := 4, pos := "law.go:143", after := #[{ on := 27, ground := Ground.data }, { on := 34, ground := Ground.data }], guard := none }] true).wp Try.prog Q { tmps := #[.slice (some ⟨b, o, none⟩) n c, u1, .int .i64 t, .int .i64 q, u4, .pointer (some ⟨Bk, 0, none⟩), u6, u7, u8, u9, u10, u11, u12, .int .i64 (i : Int), u14, u15, u16, u17, u18, u19, u20, u21, u22, u23, u24, u25, u26, u27, u28, u29, u30, u31, u32, u33, u34, u35, u36, u37, u38, u39, u40, u41, u42, u43, u44, u45, u46, u47, u48, u49, u50, u51, u52, u53, u54, u55, u56, u57, u58, u59, u60, u61, u62, u63, u64, u65, u66, u67, u68, u69, u70, u71, u72, u73, u74, u75, u76, u77, u78, u79, u80, u81, u82, u83, u84, u85, u86, u87, u88, u89, u90, u91, u92, u93, u94, u95, u96, u97, u98, u99, u100, u101, u102, u103, u104, u105, u106, u107, u108, u109, u110, u111, u112, u113, u114, u115, u116, u117, u118, u119, u120, u121, u122, u123, u124, u125, u126, u127, u128, u129, u130, u131, u132, u133, u134, u135, u136, u137, u138, u139, u140, u141, u142, u143, u144, u145, u146, u147, u148, u149, u150, u151, u152, u153, u154, u155, u156, u157, u158, u159, u160, u161, u162, u163, u164, u165, u166, u167, u168, u169, u170, u171, u172, u173, u174, u175, u176, u177, u178, u179, u180, u181, u182, u183, u184, u185, u186, u187, u188, u189, u190, u191], defers := [] } W := by
  have HQQ := hid hQ
  clear hQ
  have HT := hid HT.out.drew
  refine wa_start (S := fun W => Below Z.heap.size Z W) (by kernel_rfl) HT.out ?_
  refine wa_tk 0 (some 48) (.slice (some ⟨b, o, none⟩) n c) rfl (by kernel_rfl) rfl rfl HT.out (fun w h0 => by go_simp) ?_
  try simp only [Act.put, List.setIfInBounds_toArray, List.set_cons_zero, List.set_cons_succ]
  refine wa_tk 1 (some 49) (.int .i64 (i : Int)) rfl (by kernel_rfl) rfl rfl HT.out (fun w h0 => by go_simp) ?_
  try simp only [Act.put, List.setIfInBounds_toArray, List.set_cons_zero, List.set_cons_succ]
  refine wa_tk 2 (some 50) (.pointer (some ⟨b, o + i * 8, none⟩)) rfl (by kernel_rfl) rfl rfl HT.out (fun w h0 => by have hi := HIL.out; have hc := HCP.out; go_simp) ?_
  try simp only [Act.put, List.setIfInBounds_toArray, List.set_cons_zero, List.set_cons_succ]
  refine wa_tk 3 (some 51) (.pointer (some ⟨b, o + i * 8, none⟩)) rfl (by kernel_rfl) rfl rfl HT.out (fun w h0 => by go_simp) ?_
  try simp only [Act.put, List.setIfInBounds_toArray, List.set_cons_zero, List.set_cons_succ]
  refine wa_tk 4 (some 52) (.agg #[.int .i64 f.kind, .int .i64 f.subj, .int .i64 f.obj]) rfl (by kernel_rfl) rfl rfl HT.out (fun w h0 => by obtain ⟨x0, x1, x2, x3, x4, x5, x6, x7⟩ := HA.out _ h0; go_simp) ?_
  try simp only [Act.put, List.setIfInBounds_toArray, List.set_cons_zero, List.set_cons_succ]
  refine wa_tk 5 (some 53) (KV (K0, K1, K2)) rfl (by kernel_rfl) rfl rfl HT.out (fun w h0 => by obtain ⟨u0, u1, u2⟩ := HKC.out _ h0; go_simp) ?_
  try simp only [Act.put, List.setIfInBounds_toArray, List.set_cons_zero, List.set_cons_succ]
  refine wa_tk 6 (some 54) (.bool true) rfl (by kernel_rfl) rfl rfl HT.out (fun w h0 => by have hpe := HKE.out; have hg60 := HG.out; go_simp) ?_
  try simp only [Act.put, List.setIfInBounds_toArray, List.set_cons_zero, List.set_cons_succ]
  refine wa_tk 7 (some 55) (.bool true) rfl (by kernel_rfl) rfl rfl HT.out (fun w h0 => by go_simp) ?_
  try simp only [Act.put, List.setIfInBounds_toArray, List.set_cons_zero, List.set_cons_succ]
  refine wa_skg 8 (some 56) rfl (by kernel_rfl) rfl rfl HT.out ?_
  try simp only [Act.put, List.setIfInBounds_toArray, List.set_cons_zero, List.set_cons_succ]
  refine wa_skg 9 (some 57) rfl (by kernel_rfl) rfl rfl HT.out ?_
  try simp only [Act.put, List.setIfInBounds_toArray, List.set_cons_zero, List.set_cons_succ]
  refine wa_skg 10 (some 58) rfl (by kernel_rfl) rfl rfl HT.out ?_
  try simp only [Act.put, List.setIfInBounds_toArray, List.set_cons_zero, List.set_cons_succ]
  refine wa_skg 11 (some 59) rfl (by kernel_rfl) rfl rfl HT.out ?_
  try simp only [Act.put, List.setIfInBounds_toArray, List.set_cons_zero, List.set_cons_succ]
  refine wa_skg 12 (some 60) rfl (by kernel_rfl) rfl rfl HT.out ?_
  try simp only [Act.put, List.setIfInBounds_toArray, List.set_cons_zero, List.set_cons_succ]
  refine wa_skg 13 (some 61) rfl (by kernel_rfl) rfl rfl HT.out ?_
  try simp only [Act.put, List.setIfInBounds_toArray, List.set_cons_zero, List.set_cons_succ]
  refine wa_skg 14 (some 62) rfl (by kernel_rfl) rfl rfl HT.out ?_
  try simp only [Act.put, List.setIfInBounds_toArray, List.set_cons_zero, List.set_cons_succ]
  refine wa_skg 15 (some 63) rfl (by kernel_rfl) rfl rfl HT.out ?_
  try simp only [Act.put, List.setIfInBounds_toArray, List.set_cons_zero, List.set_cons_succ]
  refine wa_tk 16 (some 64) (.bool true) rfl (by kernel_rfl) rfl rfl HT.out (fun w h0 => by go_simp) ?_
  try simp only [Act.put, List.setIfInBounds_toArray, List.set_cons_zero, List.set_cons_succ]
  refine wa_tk 17 (some 65) (.bool true) rfl (by kernel_rfl) rfl rfl HT.out (fun w h0 => by go_simp) ?_
  try simp only [Act.put, List.setIfInBounds_toArray, List.set_cons_zero, List.set_cons_succ]
  refine wa_skg 18 (some 66) rfl (by kernel_rfl) rfl rfl HT.out ?_
  try simp only [Act.put, List.setIfInBounds_toArray, List.set_cons_zero, List.set_cons_succ]
  refine wa_skg 19 (some 67) rfl (by kernel_rfl) rfl rfl HT.out ?_
  try simp only [Act.put, List.setIfInBounds_toArray, List.set_cons_zero, List.set_cons_succ]
  refine wa_skg 20 (some 68) rfl (by kernel_rfl) rfl rfl HT.out ?_
  try simp only [Act.put, List.setIfInBounds_toArray, List.set_cons_zero, List.set_cons_succ]
  refine wa_skg 21 (some 69) rfl (by kernel_rfl) rfl rfl HT.out ?_
  try simp only [Act.put, List.setIfInBounds_toArray, List.set_cons_zero, List.set_cons_succ]
  refine wa_skg 22 (some 70) rfl (by kernel_rfl) rfl rfl HT.out ?_
  try simp only [Act.put, List.setIfInBounds_toArray, List.set_cons_zero, List.set_cons_succ]
  refine wa_skg 23 (some 71) rfl (by kernel_rfl) rfl rfl HT.out ?_
  try simp only [Act.put, List.setIfInBounds_toArray, List.set_cons_zero, List.set_cons_succ]
  refine wa_skg 24 (some 72) rfl (by kernel_rfl) rfl rfl HT.out ?_
  try simp only [Act.put, List.setIfInBounds_toArray, List.set_cons_zero, List.set_cons_succ]
  refine wa_skg 25 (some 73) rfl (by kernel_rfl) rfl rfl HT.out ?_
  try simp only [Act.put, List.setIfInBounds_toArray, List.set_cons_zero, List.set_cons_succ]
  refine wa_tk 26 (some 74) (.bool true) rfl (by kernel_rfl) rfl rfl HT.out (fun w h0 => by go_simp) ?_
  try simp only [Act.put, List.setIfInBounds_toArray, List.set_cons_zero, List.set_cons_succ]
  refine wa_tk 27 (some 75) (.bool true) rfl (by kernel_rfl) rfl rfl HT.out (fun w h0 => by go_simp) ?_
  try simp only [Act.put, List.setIfInBounds_toArray, List.set_cons_zero, List.set_cons_succ]
  refine wa_skg 28 (some 76) rfl (by kernel_rfl) rfl rfl HT.out ?_
  try simp only [Act.put, List.setIfInBounds_toArray, List.set_cons_zero, List.set_cons_succ]
  refine wa_skg 29 (some 77) rfl (by kernel_rfl) rfl rfl HT.out ?_
  try simp only [Act.put, List.setIfInBounds_toArray, List.set_cons_zero, List.set_cons_succ]
  refine wa_skg 30 (some 78) rfl (by kernel_rfl) rfl rfl HT.out ?_
  try simp only [Act.put, List.setIfInBounds_toArray, List.set_cons_zero, List.set_cons_succ]
  refine wa_skg 31 (some 79) rfl (by kernel_rfl) rfl rfl HT.out ?_
  try simp only [Act.put, List.setIfInBounds_toArray, List.set_cons_zero, List.set_cons_succ]
  refine wa_skg 32 (some 80) rfl (by kernel_rfl) rfl rfl HT.out ?_
  try simp only [Act.put, List.setIfInBounds_toArray, List.set_cons_zero, List.set_cons_succ]
  refine wa_skg 33 (some 81) rfl (by kernel_rfl) rfl rfl HT.out ?_
  try simp only [Act.put, List.setIfInBounds_toArray, List.set_cons_zero, List.set_cons_succ]
  refine wa_skg 34 (some 82) rfl (by kernel_rfl) rfl rfl HT.out ?_
  try simp only [Act.put, List.setIfInBounds_toArray, List.set_cons_zero, List.set_cons_succ]
  refine wa_tk 35 (some 83) (.bool true) rfl (by kernel_rfl) rfl rfl HT.out (fun w h0 => by go_simp) ?_
  try simp only [Act.put, List.setIfInBounds_toArray, List.set_cons_zero, List.set_cons_succ]
  refine wa_done (by decide +kernel) ?_
  exact HQQ.out _ HT.out
end Go.Proofs.Ytbejjindkcjecaa
