/- A drawn statement: function 19, region 6: A19neg. -/
import Derived.Test.YtbejjindkcjecaaWup
import Derived.Test.YtbejjindkcjecaaRefA
namespace Go.Proofs.Ytbejjindkcjecaa
open Go.RowKit Go
set_option linter.unusedVariables false
set_option linter.unusedSimpArgs false
set_option maxRecDepth 100000 in
set_option maxHeartbeats 8000000 in
theorem A19neg {Q : Exit → Act → World → Prop} {Z W : World} {u1 u4 u6 u7 u8 u9 u11 u13 u14 u15 u16 u17 u18 u19 u20 u21 u22 u23 u24 u25 u26 u27 u28 u29 u30 u31 u32 u33 u34 u35 u36 u37 u38 u39 u40 u41 u42 u43 u44 u45 u46 u47 u48 u49 u50 u51 u52 u53 u54 u55 u56 u57 u58 u59 u60 u61 u62 u63 u64 u65 u66 u67 u68 u69 u70 u71 u72 u73 u74 u75 : Value} {b o n c Bk Bx : Nat} {K0 K1 K2 t q : Int} {f : FA}
    (HT : Hid (Below Z.heap.size Z W))
    (HA : Hid (∀ W, Below Z.heap.size Z W → At8 W Bx 0 f))
    (HKC : Hid (∀ W, Below Z.heap.size Z W → W.cell? ⟨Bk, 0, none⟩ = some (.int .i64 K0) ∧ W.cell? ⟨Bk, 1, none⟩ = some (.int .i64 K1) ∧ W.cell? ⟨Bk, 2, none⟩ = some (.int .i64 K2)))
    (HG : Hid (Try.prog.eqGuardType Try.prog.depth 24 = false)) (HCP : Hid (n ≤ c ∧ c ≤ 9223372036854775807))
    (HKE : Hid (∀ w, (Op.equalIn 10000 24 (.agg #[.int .i64 f.kind, .int .i64 f.subj, .int .i64 f.obj]) (KV (K0, K1, K2))).run Try.prog w = .ok true w))
    (HF : Hid ( f.frm ≤ t))
    (HTT : Hid ( t < f.to))
    (HQ : Hid ( f.known ≤ q))
    (hQ : ∀ W', Below Z.heap.size Z W' → Q .normal { tmps := #[.slice (some ⟨b, o, none⟩) n c, u1, .int .i64 t, .int .i64 q, u4, .pointer (some ⟨Bk, 0, none⟩), u6, u7, u8, u9, .int .i64 (-1), u11, .pointer (some ⟨Bx, 0, none⟩), u13, u14, u15, u16, u17, u18, u19, u20, u21, u22, .pointer (some ⟨Bx, 0, none⟩), .agg #[.int .i64 f.kind, .int .i64 f.subj, .int .i64 f.obj], KV (K0, K1, K2), .bool true, .bool true, .pointer (some ⟨Bx, 4, none⟩), .pointer (some ⟨Bx, 4, none⟩), .int .i64 f.frm, .int .i64 t, .bool true, .bool true, .bool true, .int .i64 t, .pointer (some ⟨Bx, 4, none⟩), .pointer (some ⟨Bx, 5, none⟩), .int .i64 f.to, .bool true, .bool true, .bool true, .pointer (some ⟨Bx, 6, none⟩), .int .i64 f.known, .int .i64 q, .bool true, .bool true, .bool true, .int .i64 (-1), .bool true, .bool true, undef, undef, undef, undef, undef, undef, undef, .bool true, .bool true, u60, u61, u62, u63, u64, u65, u66, u67, u68, u69, u70, u71, u72, u73, u74, u75], defers := [] } W') :
    (Code.region 6 #[{ dst := some 23, op := Op.fieldAddr 28 (Operand.tmp 12) 0, type := 0, pos := "ref.go:52", after := #[], guard := none }, { dst := some 24, op := Op.load 24 (Operand.tmp 23), type := 24, pos := "ref.go:52", after := #[{ on := 0, ground := Ground.data }], guard := none }, { dst := some 25, op := Op.load 24 (Operand.tmp 5), type := 24, pos := "ref.go:52", after := #[], guard := none }, { dst := some 26, op := Op.binOp BinOp.eql 24 (Operand.tmp 24) (Operand.tmp 25) 24, type := 4, pos := "ref.go:52", after := #[{ on := 1, ground := Ground.data }, { on := 2, ground := Ground.data }], guard := none }, { dst := some 27, op := Op.move (Operand.tmp 26), type := 4, pos := "ref.go:52", after := #[{ on := 3, ground := Ground.data }], guard := none }, { dst := some 28, op := Op.fieldAddr 28 (Operand.tmp 12) 2, type := 0, pos := "ref.go:52", after := #[{ on := 4, ground := Ground.guard }], guard := some (4, true) }, { dst := some 29, op := Op.fieldAddr 26 (Operand.tmp 28) 0, type := 0, pos := "ref.go:52", after := #[{ on := 5, ground := Ground.data }, { on := 4, ground := Ground.guard }], guard := some (4, true) }, { dst := some 30, op := Op.load 3 (Operand.tmp 29), type := 3, pos := "ref.go:52", after := #[{ on := 6, ground := Ground.data }, { on := 4, ground := Ground.guard }], guard := some (4, true) }, { dst := some 31, op := Op.move (Operand.tmp 2), type := 3, pos := "ref.go:52", after := #[{ on := 4, ground := Ground.guard }], guard := some (4, true) }, { dst := some 32, op := Op.binOp BinOp.leq 3 (Operand.tmp 30) (Operand.tmp 31) 3, type := 4, pos := "ref.go:52", after := #[{ on := 7, ground := Ground.data }, { on := 8, ground := Ground.data }, { on := 4, ground := Ground.guard }], guard := some (4, true) }, { dst := some 33, op := Op.pick (Operand.tmp 27) (Operand.tmp 32) (Operand.const (Value.bool false)), type := 4, pos := "ref.go:52", after := #[{ on := 4, ground := Ground.data }, { on := 9, ground := Ground.data }], guard := none }, { dst := some 34, op := Op.move (Operand.tmp 33), type := 4, pos := "ref.go:52", after := #[{ on := 10, ground := Ground.data }, { on := 4, ground := Ground.chain }], guard := none }, { dst := some 35, op := Op.move (Operand.tmp 2), type := 3, pos := "ref.go:52", after := #[{ on := 11, ground := Ground.guard }], guard := some (11, true) }, { dst := some 36, op := Op.fieldAddr 28 (Operand.tmp 12) 2, type := 0, pos := "ref.go:52", after := #[{ on := 11, ground := Ground.guard }], guard := some (11, true) }, { dst := some 37, op := Op.fieldAddr 26 (Operand.tmp 36) 1, type := 0, pos := "ref.go:52", after := #[{ on := 13, ground := Ground.data }, { on := 11, ground := Ground.guard }], guard := some (11, true) }, { dst := some 38, op := Op.load 3 (Operand.tmp 37), type := 3, pos := "ref.go:52", after := #[{ on := 14, ground := Ground.data }, { on := 11, ground := Ground.guard }], guard := some (11, true) }, { dst := some 39, op := Op.binOp BinOp.lss 3 (Operand.tmp 35) (Operand.tmp 38) 3, type := 4, pos := "ref.go:52", after := #[{ on := 12, ground := Ground.data }, { on := 15, ground := Ground.data }, { on := 11, ground := Ground.guard }], guard := some (11, true) }, { dst := some 40, op := Op.pick (Operand.tmp 34) (Operand.tmp 39) (Operand.const (Value.bool false)), type := 4, pos := "ref.go:52", after := #[{ on := 11, ground := Ground.data }, { on := 16, ground := Ground.data }], guard := none }, { dst := some 41, op := Op.move (Operand.tmp 40), type := 4, pos := "ref.go:52", after := #[{ on := 17, ground := Ground.data }, { on := 11, ground := Ground.chain }], guard := none }, { dst := some 42, op := Op.fieldAddr 28 (Operand.tmp 12) 3, type := 0, pos := "ref.go:52", after := #[{ on := 18, ground := Ground.guard }], guard := some (18, true) }, { dst := some 43, op := Op.load 3 (Operand.tmp 42), type := 3, pos := "ref.go:52", after := #[{ on := 19, ground := Ground.data }, { on := 18, ground := Ground.guard }], guard := some (18, true) }, { dst := some 44, op := Op.move (Operand.tmp 3), type := 3, pos := "ref.go:52", after := #[{ on := 18, ground := Ground.guard }], guard := some (18, true) }, { dst := some 45, op := Op.binOp BinOp.leq 3 (Operand.tmp 43) (Operand.tmp 44) 3, type := 4, pos := "ref.go:52", after := #[{ on := 20, ground := Ground.data }, { on := 21, ground := Ground.data }, { on := 18, ground := Ground.guard }], guard := some (18, true) }, { dst := some 46, op := Op.pick (Operand.tmp 41) (Operand.tmp 45) (Operand.const (Value.bool false)), type := 4, pos := "ref.go:52", after := #[{ on := 18, ground := Ground.data }, { on := 22, ground := Ground.data }], guard := none }, { dst := some 47, op := Op.move (Operand.tmp 46), type := 4, pos := "ref.go:52", after := #[{ on := 23, ground := Ground.data }, { on := 18, ground := Ground.chain }], guard := none }, { dst := some 48, op := Op.move (Operand.tmp 10), type := 3, pos := "ref.go:52", after := #[{ on := 24, ground := Ground.guard }], guard := some (24, true) }, { dst := some 49, op := Op.binOp BinOp.lss 3 (Operand.tmp 48) (Operand.const (Value.int IntKind.i64 0)) 3, type := 4, pos := "ref.go:52", after := #[{ on := 25, ground := Ground.data }, { on := 24, ground := Ground.guard }], guard := some (24, true) }, { dst := some 50, op := Op.move (Operand.tmp 49), type := 4, pos := "ref.go:52", after := #[{ on := 26, ground := Ground.data }, { on := 24, ground := Ground.chain }, { on := 24, ground := Ground.guard }], guard := some (24, true) }, { dst := some 51, op := Op.load 28 (Operand.tmp 12), type := 28, pos := "ref.go:52", after := #[{ on := 27, ground := Ground.guard }], guard := some (27, false) }, { dst := some 52, op := Op.move (Operand.tmp 0), type := 22, pos := "ref.go:52", after := #[{ on := 27, ground := Ground.guard }], guard := some (27, false) }, { dst := some 53, op := Op.move (Operand.tmp 10), type := 3, pos := "ref.go:52", after := #[{ on := 27, ground := Ground.guard }], guard := some (27, false) }, { dst := some 54, op := Op.indexAddr 22 (Operand.tmp 52) (Operand.tmp 53), type := 0, pos := "ref.go:52", after := #[{ on := 29, ground := Ground.data }, { on := 30, ground := Ground.data }, { on := 27, ground := Ground.guard }], guard := some (27, false) }, { dst := some 55, op := Op.load 28 (Operand.tmp 54), type := 28, pos := "ref.go:52", after := #[{ on := 31, ground := Ground.data }, { on := 27, ground := Ground.guard }], guard := some (27, false) }, { dst := some 56, op := Op.call { callee := Callee.value (Operand.func 30), args := #[Operand.tmp 51, Operand.tmp 55], argTypes := #[28, 28] }, type := 4, pos := "ref.go:52", after := #[{ on := 28, ground := Ground.data }, { on := 32, ground := Ground.data }, { on := 27, ground := Ground.chain }, { on := 27, ground := Ground.guard }], guard := some (27, false) }, { dst := some 57, op := Op.unOp UnOp.not 4 (Operand.tmp 56), type := 4, pos := "ref.go:52", after := #[{ on := 33, ground := Ground.data }, { on := 27, ground := Ground.guard }], guard := some (27, false) }, { dst := some 58, op := Op.pick (Operand.tmp 50) (Operand.const (Value.bool true)) (Operand.tmp 57), type := 4, pos := "ref.go:52", after := #[{ on := 27, ground := Ground.data }, { on := 34, ground := Ground.data }, { on := 24, ground := Ground.guard }], guard := some (24, true) }, { dst := some 59, op := Op.pick (Operand.tmp 47) (Operand.tmp 58) (Operand.const (Value.bool false)), type := 4, pos := "ref.go:52", after := #[{ on := 24, ground := Ground.data }, { on := 35, ground := Ground.data }], guard := none }] true).wp Try.prog Q { tmps := #[.slice (some ⟨b, o, none⟩) n c, u1, .int .i64 t, .int .i64 q, u4, .pointer (some ⟨Bk, 0, none⟩), u6, u7, u8, u9, .int .i64 (-1), u11, .pointer (some ⟨Bx, 0, none⟩), u13, u14, u15, u16, u17, u18, u19, u20, u21, u22, u23, u24, u25, u26, u27, u28, u29, u30, u31, u32, u33, u34, u35, u36, u37, u38, u39, u40, u41, u42, u43, u44, u45, u46, u47, u48, u49, u50, u51, u52, u53, u54, u55, u56, u57, u58, u59, u60, u61, u62, u63, u64, u65, u66, u67, u68, u69, u70, u71, u72, u73, u74, u75], defers := [] } W := by
  have HQQ := hid hQ
  clear hQ
  have HT := hid HT.out.drew
  refine wa_start (S := fun W => Below Z.heap.size Z W) (by kernel_rfl) HT.out ?_
  refine wa_tk 0 (some 23) (.pointer (some ⟨Bx, 0, none⟩)) rfl (by kernel_rfl) rfl rfl HT.out (fun w h0 => by go_simp) ?_
  try simp only [Act.put, List.setIfInBounds_toArray, List.set_cons_zero, List.set_cons_succ]
  refine wa_tk 1 (some 24) (.agg #[.int .i64 f.kind, .int .i64 f.subj, .int .i64 f.obj]) rfl (by kernel_rfl) rfl rfl HT.out (fun w h0 => by obtain ⟨x0, x1, x2, x3, x4, x5, x6, x7⟩ := HA.out _ h0; go_simp) ?_
  try simp only [Act.put, List.setIfInBounds_toArray, List.set_cons_zero, List.set_cons_succ]
  refine wa_tk 2 (some 25) (KV (K0, K1, K2)) rfl (by kernel_rfl) rfl rfl HT.out (fun w h0 => by obtain ⟨u0, u1, u2⟩ := HKC.out _ h0; go_simp) ?_
  try simp only [Act.put, List.setIfInBounds_toArray, List.set_cons_zero, List.set_cons_succ]
  refine wa_tk 3 (some 26) (.bool true) rfl (by kernel_rfl) rfl rfl HT.out (fun w h0 => by have hpe := HKE.out; have hg60 := HG.out; go_simp) ?_
  try simp only [Act.put, List.setIfInBounds_toArray, List.set_cons_zero, List.set_cons_succ]
  refine wa_tk 4 (some 27) (.bool true) rfl (by kernel_rfl) rfl rfl HT.out (fun w h0 => by go_simp) ?_
  try simp only [Act.put, List.setIfInBounds_toArray, List.set_cons_zero, List.set_cons_succ]
  refine wa_tkg 5 (some 28) (.pointer (some ⟨Bx, 4, none⟩)) rfl (by kernel_rfl) rfl rfl HT.out (fun w h0 => by go_simp) ?_
  try simp only [Act.put, List.setIfInBounds_toArray, List.set_cons_zero, List.set_cons_succ]
  refine wa_tkg 6 (some 29) (.pointer (some ⟨Bx, 4, none⟩)) rfl (by kernel_rfl) rfl rfl HT.out (fun w h0 => by go_simp) ?_
  try simp only [Act.put, List.setIfInBounds_toArray, List.set_cons_zero, List.set_cons_succ]
  refine wa_tkg 7 (some 30) (.int .i64 f.frm) rfl (by kernel_rfl) rfl rfl HT.out (fun w h0 => by obtain ⟨x0, x1, x2, x3, x4, x5, x6, x7⟩ := HA.out _ h0; go_simp) ?_
  try simp only [Act.put, List.setIfInBounds_toArray, List.set_cons_zero, List.set_cons_succ]
  refine wa_tkg 8 (some 31) (.int .i64 t) rfl (by kernel_rfl) rfl rfl HT.out (fun w h0 => by go_simp) ?_
  try simp only [Act.put, List.setIfInBounds_toArray, List.set_cons_zero, List.set_cons_succ]
  refine wa_tkg 9 (some 32) (.bool true) rfl (by kernel_rfl) rfl rfl HT.out (fun w h0 => by have hcmp := HF.out; (go_simp) <;> omega) ?_
  try simp only [Act.put, List.setIfInBounds_toArray, List.set_cons_zero, List.set_cons_succ]
  refine wa_tk 10 (some 33) (.bool true) rfl (by kernel_rfl) rfl rfl HT.out (fun w h0 => by go_simp) ?_
  try simp only [Act.put, List.setIfInBounds_toArray, List.set_cons_zero, List.set_cons_succ]
  refine wa_tk 11 (some 34) (.bool true) rfl (by kernel_rfl) rfl rfl HT.out (fun w h0 => by go_simp) ?_
  try simp only [Act.put, List.setIfInBounds_toArray, List.set_cons_zero, List.set_cons_succ]
  refine wa_tkg 12 (some 35) (.int .i64 t) rfl (by kernel_rfl) rfl rfl HT.out (fun w h0 => by go_simp) ?_
  try simp only [Act.put, List.setIfInBounds_toArray, List.set_cons_zero, List.set_cons_succ]
  refine wa_tkg 13 (some 36) (.pointer (some ⟨Bx, 4, none⟩)) rfl (by kernel_rfl) rfl rfl HT.out (fun w h0 => by go_simp) ?_
  try simp only [Act.put, List.setIfInBounds_toArray, List.set_cons_zero, List.set_cons_succ]
  refine wa_tkg 14 (some 37) (.pointer (some ⟨Bx, 5, none⟩)) rfl (by kernel_rfl) rfl rfl HT.out (fun w h0 => by go_simp) ?_
  try simp only [Act.put, List.setIfInBounds_toArray, List.set_cons_zero, List.set_cons_succ]
  refine wa_tkg 15 (some 38) (.int .i64 f.to) rfl (by kernel_rfl) rfl rfl HT.out (fun w h0 => by obtain ⟨x0, x1, x2, x3, x4, x5, x6, x7⟩ := HA.out _ h0; go_simp) ?_
  try simp only [Act.put, List.setIfInBounds_toArray, List.set_cons_zero, List.set_cons_succ]
  refine wa_tkg 16 (some 39) (.bool true) rfl (by kernel_rfl) rfl rfl HT.out (fun w h0 => by have hcmp := HTT.out; (go_simp) <;> omega) ?_
  try simp only [Act.put, List.setIfInBounds_toArray, List.set_cons_zero, List.set_cons_succ]
  refine wa_tk 17 (some 40) (.bool true) rfl (by kernel_rfl) rfl rfl HT.out (fun w h0 => by go_simp) ?_
  try simp only [Act.put, List.setIfInBounds_toArray, List.set_cons_zero, List.set_cons_succ]
  refine wa_tk 18 (some 41) (.bool true) rfl (by kernel_rfl) rfl rfl HT.out (fun w h0 => by go_simp) ?_
  try simp only [Act.put, List.setIfInBounds_toArray, List.set_cons_zero, List.set_cons_succ]
  refine wa_tkg 19 (some 42) (.pointer (some ⟨Bx, 6, none⟩)) rfl (by kernel_rfl) rfl rfl HT.out (fun w h0 => by go_simp) ?_
  try simp only [Act.put, List.setIfInBounds_toArray, List.set_cons_zero, List.set_cons_succ]
  refine wa_tkg 20 (some 43) (.int .i64 f.known) rfl (by kernel_rfl) rfl rfl HT.out (fun w h0 => by obtain ⟨x0, x1, x2, x3, x4, x5, x6, x7⟩ := HA.out _ h0; go_simp) ?_
  try simp only [Act.put, List.setIfInBounds_toArray, List.set_cons_zero, List.set_cons_succ]
  refine wa_tkg 21 (some 44) (.int .i64 q) rfl (by kernel_rfl) rfl rfl HT.out (fun w h0 => by go_simp) ?_
  try simp only [Act.put, List.setIfInBounds_toArray, List.set_cons_zero, List.set_cons_succ]
  refine wa_tkg 22 (some 45) (.bool true) rfl (by kernel_rfl) rfl rfl HT.out (fun w h0 => by have hcmp := HQ.out; (go_simp) <;> omega) ?_
  try simp only [Act.put, List.setIfInBounds_toArray, List.set_cons_zero, List.set_cons_succ]
  refine wa_tk 23 (some 46) (.bool true) rfl (by kernel_rfl) rfl rfl HT.out (fun w h0 => by go_simp) ?_
  try simp only [Act.put, List.setIfInBounds_toArray, List.set_cons_zero, List.set_cons_succ]
  refine wa_tk 24 (some 47) (.bool true) rfl (by kernel_rfl) rfl rfl HT.out (fun w h0 => by go_simp) ?_
  try simp only [Act.put, List.setIfInBounds_toArray, List.set_cons_zero, List.set_cons_succ]
  refine wa_tkg 25 (some 48) (.int .i64 (-1)) rfl (by kernel_rfl) rfl rfl HT.out (fun w h0 => by go_simp) ?_
  try simp only [Act.put, List.setIfInBounds_toArray, List.set_cons_zero, List.set_cons_succ]
  refine wa_tkg 26 (some 49) (.bool true) rfl (by kernel_rfl) rfl rfl HT.out (fun w h0 => by go_simp) ?_
  try simp only [Act.put, List.setIfInBounds_toArray, List.set_cons_zero, List.set_cons_succ]
  refine wa_tkg 27 (some 50) (.bool true) rfl (by kernel_rfl) rfl rfl HT.out (fun w h0 => by go_simp) ?_
  try simp only [Act.put, List.setIfInBounds_toArray, List.set_cons_zero, List.set_cons_succ]
  refine wa_skg 28 (some 51) rfl (by kernel_rfl) rfl rfl HT.out ?_
  try simp only [Act.put, List.setIfInBounds_toArray, List.set_cons_zero, List.set_cons_succ]
  refine wa_skg 29 (some 52) rfl (by kernel_rfl) rfl rfl HT.out ?_
  try simp only [Act.put, List.setIfInBounds_toArray, List.set_cons_zero, List.set_cons_succ]
  refine wa_skg 30 (some 53) rfl (by kernel_rfl) rfl rfl HT.out ?_
  try simp only [Act.put, List.setIfInBounds_toArray, List.set_cons_zero, List.set_cons_succ]
  refine wa_skg 31 (some 54) rfl (by kernel_rfl) rfl rfl HT.out ?_
  try simp only [Act.put, List.setIfInBounds_toArray, List.set_cons_zero, List.set_cons_succ]
  refine wa_skg 32 (some 55) rfl (by kernel_rfl) rfl rfl HT.out ?_
  try simp only [Act.put, List.setIfInBounds_toArray, List.set_cons_zero, List.set_cons_succ]
  refine wa_skg 33 (some 56) rfl (by kernel_rfl) rfl rfl HT.out ?_
  try simp only [Act.put, List.setIfInBounds_toArray, List.set_cons_zero, List.set_cons_succ]
  refine wa_skg 34 (some 57) rfl (by kernel_rfl) rfl rfl HT.out ?_
  try simp only [Act.put, List.setIfInBounds_toArray, List.set_cons_zero, List.set_cons_succ]
  refine wa_tkg 35 (some 58) (.bool true) rfl (by kernel_rfl) rfl rfl HT.out (fun w h0 => by go_simp) ?_
  try simp only [Act.put, List.setIfInBounds_toArray, List.set_cons_zero, List.set_cons_succ]
  refine wa_tk 36 (some 59) (.bool true) rfl (by kernel_rfl) rfl rfl HT.out (fun w h0 => by go_simp) ?_
  try simp only [Act.put, List.setIfInBounds_toArray, List.set_cons_zero, List.set_cons_succ]
  refine wa_done (by decide +kernel) ?_
  exact HQQ.out _ HT.out
end Go.Proofs.Ytbejjindkcjecaa
namespace Go.Proofs.Ytbejjindkcjecaa
open Go.RowKit Go
set_option linter.unusedVariables false
set_option linter.unusedSimpArgs false
set_option maxRecDepth 100000 in
set_option maxHeartbeats 8000000 in
theorem A19bef {Q : Exit → Act → World → Prop} {Z W : World} {u1 u4 u6 u7 u8 u9 u11 u13 u14 u15 u16 u17 u18 u19 u20 u21 u22 u23 u24 u25 u26 u27 u28 u29 u30 u31 u32 u33 u34 u35 u36 u37 u38 u39 u40 u41 u42 u43 u44 u45 u46 u47 u48 u49 u50 u51 u52 u53 u54 u55 u56 u57 u58 u59 u60 u61 u62 u63 u64 u65 u66 u67 u68 u69 u70 u71 u72 u73 u74 u75 : Value} {b o n c j Bk Bx : Nat} {K0 K1 K2 t q : Int} {f g : FA}
    (HT : Hid (Below Z.heap.size Z W))
    (HA : Hid (∀ W, Below Z.heap.size Z W → At8 W Bx 0 f))
    (HKC : Hid (∀ W, Below Z.heap.size Z W → W.cell? ⟨Bk, 0, none⟩ = some (.int .i64 K0) ∧ W.cell? ⟨Bk, 1, none⟩ = some (.int .i64 K1) ∧ W.cell? ⟨Bk, 2, none⟩ = some (.int .i64 K2)))
    (HG : Hid (Try.prog.eqGuardType Try.prog.depth 24 = false)) (HCP : Hid (n ≤ c ∧ c ≤ 9223372036854775807))
    (HKE : Hid (∀ w, (Op.equalIn 10000 24 (.agg #[.int .i64 f.kind, .int .i64 f.subj, .int .i64 f.obj]) (KV (K0, K1, K2))).run Try.prog w = .ok true w))
    (HF : Hid ( f.frm ≤ t))
    (HTT : Hid ( t < f.to))
    (HQ : Hid ( f.known ≤ q))
    (HB : Hid (∀ W, Below Z.heap.size Z W → At8 W b (o + j * 8) g)) (HJL : Hid (j < n))
    (B1 : Hid (∀ W, Calls Try.prog 30 #[FV f, FV g] W fun e w' => e = .returned (.bool true) ∧ Below W.heap.size W w'))
    (hQ : ∀ W', Below Z.heap.size Z W' → Q .normal { tmps := #[.slice (some ⟨b, o, none⟩) n c, u1, .int .i64 t, .int .i64 q, u4, .pointer (some ⟨Bk, 0, none⟩), u6, u7, u8, u9, .int .i64 (j : Int), u11, .pointer (some ⟨Bx, 0, none⟩), u13, u14, u15, u16, u17, u18, u19, u20, u21, u22, .pointer (some ⟨Bx, 0, none⟩), .agg #[.int .i64 f.kind, .int .i64 f.subj, .int .i64 f.obj], KV (K0, K1, K2), .bool true, .bool true, .pointer (some ⟨Bx, 4, none⟩), .pointer (some ⟨Bx, 4, none⟩), .int .i64 f.frm, .int .i64 t, .bool true, .bool true, .bool true, .int .i64 t, .pointer (some ⟨Bx, 4, none⟩), .pointer (some ⟨Bx, 5, none⟩), .int .i64 f.to, .bool true, .bool true, .bool true, .pointer (some ⟨Bx, 6, none⟩), .int .i64 f.known, .int .i64 q, .bool true, .bool true, .bool true, .int .i64 (j : Int), .bool false, .bool false, FV f, .slice (some ⟨b, o, none⟩) n c, .int .i64 (j : Int), .pointer (some ⟨b, o + j * 8, none⟩), FV g, .bool true, .bool false, .bool false, .bool false, u60, u61, u62, u63, u64, u65, u66, u67, u68, u69, u70, u71, u72, u73, u74, u75], defers := [] } W') :
    (Code.region 6 #[{ dst := some 23, op := Op.fieldAddr 28 (Operand.tmp 12) 0, type := 0, pos := "ref.go:52", after := #[], guard := none }, { dst := some 24, op := Op.load 24 (Operand.tmp 23), type := 24, pos := "ref.go:52", after := #[{ on := 0, ground := Ground.data }], guard := none }, { dst := some 25, op := Op.load 24 (Operand.tmp 5), type := 24, pos := "ref.go:52", after := #[], guard := none }, { dst := some 26, op := Op.binOp BinOp.eql 24 (Operand.tmp 24) (Operand.tmp 25) 24, type := 4, pos := "ref.go:52", after := #[{ on := 1, ground := Ground.data }, { on := 2, ground := Ground.data }], guard := none }, { dst := some 27, op := Op.move (Operand.tmp 26), type := 4, pos := "ref.go:52", after := #[{ on := 3, ground := Ground.data }], guard := none }, { dst := some 28, op := Op.fieldAddr 28 (Operand.tmp 12) 2, type := 0, pos := "ref.go:52", after := #[{ on := 4, ground := Ground.guard }], guard := some (4, true) }, { dst := some 29, op := Op.fieldAddr 26 (Operand.tmp 28) 0, type := 0, pos := "ref.go:52", after := #[{ on := 5, ground := Ground.data }, { on := 4, ground := Ground.guard }], guard := some (4, true) }, { dst := some 30, op := Op.load 3 (Operand.tmp 29), type := 3, pos := "ref.go:52", after := #[{ on := 6, ground := Ground.data }, { on := 4, ground := Ground.guard }], guard := some (4, true) }, { dst := some 31, op := Op.move (Operand.tmp 2), type := 3, pos := "ref.go:52", after := #[{ on := 4, ground := Ground.guard }], guard := some (4, true) }, { dst := some 32, op := Op.binOp BinOp.leq 3 (Operand.tmp 30) (Operand.tmp 31) 3, type := 4, pos := "ref.go:52", after := #[{ on := 7, ground := Ground.data }, { on := 8, ground := Ground.data }, { on := 4, ground := Ground.guard }], guard := some (4, true) }, { dst := some 33, op := Op.pick (Operand.tmp 27) (Operand.tmp 32) (Operand.const (Value.bool false)), type := 4, pos := "ref.go:52", after := #[{ on := 4, ground := Ground.data }, { on := 9, ground := Ground.data }], guard := none }, { dst := some 34, op := Op.move (Operand.tmp 33), type := 4, pos := "ref.go:52", after := #[{ on := 10, ground := Ground.data }, { on := 4, ground := Ground.chain }], guard := none }, { dst := some 35, op := Op.move (Operand.tmp 2), type := 3, pos := "ref.go:52", after := #[{ on := 11, ground := Ground.guard }], guard := some (11, true) }, { dst := some 36, op := Op.fieldAddr 28 (Operand.tmp 12) 2, type := 0, pos := "ref.go:52", after := #[{ on := 11, ground := Ground.guard }], guard := some (11, true) }, { dst := some 37, op := Op.fieldAddr 26 (Operand.tmp 36) 1, type := 0, pos := "ref.go:52", after := #[{ on := 13, ground := Ground.data }, { on := 11, ground := Ground.guard }], guard := some (11, true) }, { dst := some 38, op := Op.load 3 (Operand.tmp 37), type := 3, pos := "ref.go:52", after := #[{ on := 14, ground := Ground.data }, { on := 11, ground := Ground.guard }], guard := some (11, true) }, { dst := some 39, op := Op.binOp BinOp.lss 3 (Operand.tmp 35) (Operand.tmp 38) 3, type := 4, pos := "ref.go:52", after := #[{ on := 12, ground := Ground.data }, { on := 15, ground := Ground.data }, { on := 11, ground := Ground.guard }], guard := some (11, true) }, { dst := some 40, op := Op.pick (Operand.tmp 34) (Operand.tmp 39) (Operand.const (Value.bool false)), type := 4, pos := "ref.go:52", after := #[{ on := 11, ground := Ground.data }, { on := 16, ground := Ground.data }], guard := none }, { dst := some 41, op := Op.move (Operand.tmp 40), type := 4, pos := "ref.go:52", after := #[{ on := 17, ground := Ground.data }, { on := 11, ground := Ground.chain }], guard := none }, { dst := some 42, op := Op.fieldAddr 28 (Operand.tmp 12) 3, type := 0, pos := "ref.go:52", after := #[{ on := 18, ground := Ground.guard }], guard := some (18, true) }, { dst := some 43, op := Op.load 3 (Operand.tmp 42), type := 3, pos := "ref.go:52", after := #[{ on := 19, ground := Ground.data }, { on := 18, ground := Ground.guard }], guard := some (18, true) }, { dst := some 44, op := Op.move (Operand.tmp 3), type := 3, pos := "ref.go:52", after := #[{ on := 18, ground := Ground.guard }], guard := some (18, true) }, { dst := some 45, op := Op.binOp BinOp.leq 3 (Operand.tmp 43) (Operand.tmp 44) 3, type := 4, pos := "ref.go:52", after := #[{ on := 20, ground := Ground.data }, { on := 21, ground := Ground.data }, { on := 18, ground := Ground.guard }], guard := some (18, true) }, { dst := some 46, op := Op.pick (Operand.tmp 41) (Operand.tmp 45) (Operand.const (Value.bool false)), type := 4, pos := "ref.go:52", after := #[{ on := 18, ground := Ground.data }, { on := 22, ground := Ground.data }], guard := none }, { dst := some 47, op := Op.move (Operand.tmp 46), type := 4, pos := "ref.go:52", after := #[{ on := 23, ground := Ground.data }, { on := 18, ground := Ground.chain }], guard := none }, { dst := some 48, op := Op.move (Operand.tmp 10), type := 3, pos := "ref.go:52", after := #[{ on := 24, ground := Ground.guard }], guard := some (24, true) }, { dst := some 49, op := Op.binOp BinOp.lss 3 (Operand.tmp 48) (Operand.const (Value.int IntKind.i64 0)) 3, type := 4, pos := "ref.go:52", after := #[{ on := 25, ground := Ground.data }, { on := 24, ground := Ground.guard }], guard := some (24, true) }, { dst := some 50, op := Op.move (Operand.tmp 49), type := 4, pos := "ref.go:52", after := #[{ on := 26, ground := Ground.data }, { on := 24, ground := Ground.chain }, { on := 24, ground := Ground.guard }], guard := some (24, true) }, { dst := some 51, op := Op.load 28 (Operand.tmp 12), type := 28, pos := "ref.go:52", after := #[{ on := 27, ground := Ground.guard }], guard := some (27, false) }, { dst := some 52, op := Op.move (Operand.tmp 0), type := 22, pos := "ref.go:52", after := #[{ on := 27, ground := Ground.guard }], guard := some (27, false) }, { dst := some 53, op := Op.move (Operand.tmp 10), type := 3, pos := "ref.go:52", after := #[{ on := 27, ground := Ground.guard }], guard := some (27, false) }, { dst := some 54, op := Op.indexAddr 22 (Operand.tmp 52) (Operand.tmp 53), type := 0, pos := "ref.go:52", after := #[{ on := 29, ground := Ground.data }, { on := 30, ground := Ground.data }, { on := 27, ground := Ground.guard }], guard := some (27, false) }, { dst := some 55, op := Op.load 28 (Operand.tmp 54), type := 28, pos := "ref.go:52", after := #[{ on := 31, ground := Ground.data }, { on := 27, ground := Ground.guard }], guard := some (27, false) }, { dst := some 56, op := Op.call { callee := Callee.value (Operand.func 30), args := #[Operand.tmp 51, Operand.tmp 55], argTypes := #[28, 28] }, type := 4, pos := "ref.go:52", after := #[{ on := 28, ground := Ground.data }, { on := 32, ground := Ground.data }, { on := 27, ground := Ground.chain }, { on := 27, ground := Ground.guard }], guard := some (27, false) }, { dst := some 57, op := Op.unOp UnOp.not 4 (Operand.tmp 56), type := 4, pos := "ref.go:52", after := #[{ on := 33, ground := Ground.data }, { on := 27, ground := Ground.guard }], guard := some (27, false) }, { dst := some 58, op := Op.pick (Operand.tmp 50) (Operand.const (Value.bool true)) (Operand.tmp 57), type := 4, pos := "ref.go:52", after := #[{ on := 27, ground := Ground.data }, { on := 34, ground := Ground.data }, { on := 24, ground := Ground.guard }], guard := some (24, true) }, { dst := some 59, op := Op.pick (Operand.tmp 47) (Operand.tmp 58) (Operand.const (Value.bool false)), type := 4, pos := "ref.go:52", after := #[{ on := 24, ground := Ground.data }, { on := 35, ground := Ground.data }], guard := none }] true).wp Try.prog Q { tmps := #[.slice (some ⟨b, o, none⟩) n c, u1, .int .i64 t, .int .i64 q, u4, .pointer (some ⟨Bk, 0, none⟩), u6, u7, u8, u9, .int .i64 (j : Int), u11, .pointer (some ⟨Bx, 0, none⟩), u13, u14, u15, u16, u17, u18, u19, u20, u21, u22, u23, u24, u25, u26, u27, u28, u29, u30, u31, u32, u33, u34, u35, u36, u37, u38, u39, u40, u41, u42, u43, u44, u45, u46, u47, u48, u49, u50, u51, u52, u53, u54, u55, u56, u57, u58, u59, u60, u61, u62, u63, u64, u65, u66, u67, u68, u69, u70, u71, u72, u73, u74, u75], defers := [] } W := by
  have HQQ := hid hQ
  clear hQ
  have HT := hid HT.out.drew
  refine wa_start (S := fun W => Below Z.heap.size Z W) (by kernel_rfl) HT.out ?_
  refine wa_tk 0 (some 23) (.pointer (some ⟨Bx, 0, none⟩)) rfl (by kernel_rfl) rfl rfl HT.out (fun w h0 => by go_simp) ?_
  try simp only [Act.put, List.setIfInBounds_toArray, List.set_cons_zero, List.set_cons_succ]
  refine wa_tk 1 (some 24) (.agg #[.int .i64 f.kind, .int .i64 f.subj, .int .i64 f.obj]) rfl (by kernel_rfl) rfl rfl HT.out (fun w h0 => by obtain ⟨x0, x1, x2, x3, x4, x5, x6, x7⟩ := HA.out _ h0; go_simp) ?_
  try simp only [Act.put, List.setIfInBounds_toArray, List.set_cons_zero, List.set_cons_succ]
  refine wa_tk 2 (some 25) (KV (K0, K1, K2)) rfl (by kernel_rfl) rfl rfl HT.out (fun w h0 => by obtain ⟨u0, u1, u2⟩ := HKC.out _ h0; go_simp) ?_
  try simp only [Act.put, List.setIfInBounds_toArray, List.set_cons_zero, List.set_cons_succ]
  refine wa_tk 3 (some 26) (.bool true) rfl (by kernel_rfl) rfl rfl HT.out (fun w h0 => by have hpe := HKE.out; have hg60 := HG.out; go_simp) ?_
  try simp only [Act.put, List.setIfInBounds_toArray, List.set_cons_zero, List.set_cons_succ]
  refine wa_tk 4 (some 27) (.bool true) rfl (by kernel_rfl) rfl rfl HT.out (fun w h0 => by go_simp) ?_
  try simp only [Act.put, List.setIfInBounds_toArray, List.set_cons_zero, List.set_cons_succ]
  refine wa_tkg 5 (some 28) (.pointer (some ⟨Bx, 4, none⟩)) rfl (by kernel_rfl) rfl rfl HT.out (fun w h0 => by go_simp) ?_
  try simp only [Act.put, List.setIfInBounds_toArray, List.set_cons_zero, List.set_cons_succ]
  refine wa_tkg 6 (some 29) (.pointer (some ⟨Bx, 4, none⟩)) rfl (by kernel_rfl) rfl rfl HT.out (fun w h0 => by go_simp) ?_
  try simp only [Act.put, List.setIfInBounds_toArray, List.set_cons_zero, List.set_cons_succ]
  refine wa_tkg 7 (some 30) (.int .i64 f.frm) rfl (by kernel_rfl) rfl rfl HT.out (fun w h0 => by obtain ⟨x0, x1, x2, x3, x4, x5, x6, x7⟩ := HA.out _ h0; go_simp) ?_
  try simp only [Act.put, List.setIfInBounds_toArray, List.set_cons_zero, List.set_cons_succ]
  refine wa_tkg 8 (some 31) (.int .i64 t) rfl (by kernel_rfl) rfl rfl HT.out (fun w h0 => by go_simp) ?_
  try simp only [Act.put, List.setIfInBounds_toArray, List.set_cons_zero, List.set_cons_succ]
  refine wa_tkg 9 (some 32) (.bool true) rfl (by kernel_rfl) rfl rfl HT.out (fun w h0 => by have hcmp := HF.out; (go_simp) <;> omega) ?_
  try simp only [Act.put, List.setIfInBounds_toArray, List.set_cons_zero, List.set_cons_succ]
  refine wa_tk 10 (some 33) (.bool true) rfl (by kernel_rfl) rfl rfl HT.out (fun w h0 => by go_simp) ?_
  try simp only [Act.put, List.setIfInBounds_toArray, List.set_cons_zero, List.set_cons_succ]
  refine wa_tk 11 (some 34) (.bool true) rfl (by kernel_rfl) rfl rfl HT.out (fun w h0 => by go_simp) ?_
  try simp only [Act.put, List.setIfInBounds_toArray, List.set_cons_zero, List.set_cons_succ]
  refine wa_tkg 12 (some 35) (.int .i64 t) rfl (by kernel_rfl) rfl rfl HT.out (fun w h0 => by go_simp) ?_
  try simp only [Act.put, List.setIfInBounds_toArray, List.set_cons_zero, List.set_cons_succ]
  refine wa_tkg 13 (some 36) (.pointer (some ⟨Bx, 4, none⟩)) rfl (by kernel_rfl) rfl rfl HT.out (fun w h0 => by go_simp) ?_
  try simp only [Act.put, List.setIfInBounds_toArray, List.set_cons_zero, List.set_cons_succ]
  refine wa_tkg 14 (some 37) (.pointer (some ⟨Bx, 5, none⟩)) rfl (by kernel_rfl) rfl rfl HT.out (fun w h0 => by go_simp) ?_
  try simp only [Act.put, List.setIfInBounds_toArray, List.set_cons_zero, List.set_cons_succ]
  refine wa_tkg 15 (some 38) (.int .i64 f.to) rfl (by kernel_rfl) rfl rfl HT.out (fun w h0 => by obtain ⟨x0, x1, x2, x3, x4, x5, x6, x7⟩ := HA.out _ h0; go_simp) ?_
  try simp only [Act.put, List.setIfInBounds_toArray, List.set_cons_zero, List.set_cons_succ]
  refine wa_tkg 16 (some 39) (.bool true) rfl (by kernel_rfl) rfl rfl HT.out (fun w h0 => by have hcmp := HTT.out; (go_simp) <;> omega) ?_
  try simp only [Act.put, List.setIfInBounds_toArray, List.set_cons_zero, List.set_cons_succ]
  refine wa_tk 17 (some 40) (.bool true) rfl (by kernel_rfl) rfl rfl HT.out (fun w h0 => by go_simp) ?_
  try simp only [Act.put, List.setIfInBounds_toArray, List.set_cons_zero, List.set_cons_succ]
  refine wa_tk 18 (some 41) (.bool true) rfl (by kernel_rfl) rfl rfl HT.out (fun w h0 => by go_simp) ?_
  try simp only [Act.put, List.setIfInBounds_toArray, List.set_cons_zero, List.set_cons_succ]
  refine wa_tkg 19 (some 42) (.pointer (some ⟨Bx, 6, none⟩)) rfl (by kernel_rfl) rfl rfl HT.out (fun w h0 => by go_simp) ?_
  try simp only [Act.put, List.setIfInBounds_toArray, List.set_cons_zero, List.set_cons_succ]
  refine wa_tkg 20 (some 43) (.int .i64 f.known) rfl (by kernel_rfl) rfl rfl HT.out (fun w h0 => by obtain ⟨x0, x1, x2, x3, x4, x5, x6, x7⟩ := HA.out _ h0; go_simp) ?_
  try simp only [Act.put, List.setIfInBounds_toArray, List.set_cons_zero, List.set_cons_succ]
  refine wa_tkg 21 (some 44) (.int .i64 q) rfl (by kernel_rfl) rfl rfl HT.out (fun w h0 => by go_simp) ?_
  try simp only [Act.put, List.setIfInBounds_toArray, List.set_cons_zero, List.set_cons_succ]
  refine wa_tkg 22 (some 45) (.bool true) rfl (by kernel_rfl) rfl rfl HT.out (fun w h0 => by have hcmp := HQ.out; (go_simp) <;> omega) ?_
  try simp only [Act.put, List.setIfInBounds_toArray, List.set_cons_zero, List.set_cons_succ]
  refine wa_tk 23 (some 46) (.bool true) rfl (by kernel_rfl) rfl rfl HT.out (fun w h0 => by go_simp) ?_
  try simp only [Act.put, List.setIfInBounds_toArray, List.set_cons_zero, List.set_cons_succ]
  refine wa_tk 24 (some 47) (.bool true) rfl (by kernel_rfl) rfl rfl HT.out (fun w h0 => by go_simp) ?_
  try simp only [Act.put, List.setIfInBounds_toArray, List.set_cons_zero, List.set_cons_succ]
  refine wa_tkg 25 (some 48) (.int .i64 (j : Int)) rfl (by kernel_rfl) rfl rfl HT.out (fun w h0 => by go_simp) ?_
  try simp only [Act.put, List.setIfInBounds_toArray, List.set_cons_zero, List.set_cons_succ]
  refine wa_tkg 26 (some 49) (.bool false) rfl (by kernel_rfl) rfl rfl HT.out (fun w h0 => by (go_simp) <;> omega) ?_
  try simp only [Act.put, List.setIfInBounds_toArray, List.set_cons_zero, List.set_cons_succ]
  refine wa_tkg 27 (some 50) (.bool false) rfl (by kernel_rfl) rfl rfl HT.out (fun w h0 => by go_simp) ?_
  try simp only [Act.put, List.setIfInBounds_toArray, List.set_cons_zero, List.set_cons_succ]
  refine wa_tkg 28 (some 51) (FV f) rfl (by kernel_rfl) rfl rfl HT.out (fun w h0 => by obtain ⟨x0, x1, x2, x3, x4, x5, x6, x7⟩ := HA.out _ h0; go_simp) ?_
  try simp only [Act.put, List.setIfInBounds_toArray, List.set_cons_zero, List.set_cons_succ]
  refine wa_tkg 29 (some 52) (.slice (some ⟨b, o, none⟩) n c) rfl (by kernel_rfl) rfl rfl HT.out (fun w h0 => by go_simp) ?_
  try simp only [Act.put, List.setIfInBounds_toArray, List.set_cons_zero, List.set_cons_succ]
  refine wa_tkg 30 (some 53) (.int .i64 (j : Int)) rfl (by kernel_rfl) rfl rfl HT.out (fun w h0 => by go_simp) ?_
  try simp only [Act.put, List.setIfInBounds_toArray, List.set_cons_zero, List.set_cons_succ]
  refine wa_tkg 31 (some 54) (.pointer (some ⟨b, o + j * 8, none⟩)) rfl (by kernel_rfl) rfl rfl HT.out (fun w h0 => by have hj := HJL.out; have hc := HCP.out; go_simp) ?_
  try simp only [Act.put, List.setIfInBounds_toArray, List.set_cons_zero, List.set_cons_succ]
  refine wa_tkg 32 (some 55) (FV g) rfl (by kernel_rfl) rfl rfl HT.out (fun w h0 => by obtain ⟨x0, x1, x2, x3, x4, x5, x6, x7⟩ := HB.out _ h0; go_simp) ?_
  try simp only [Act.put, List.setIfInBounds_toArray, List.set_cons_zero, List.set_cons_succ]
  refine wa_branch [33] (by decide +kernel) rfl ?_
  refine ar_opg 33 rfl rfl (fun K hK => ?_) ar_nil
  unfold Oper.wp
  go_simp
  go_at_call 30
  refine (B1.out _).mono ?_
  rintro e wz ⟨rfl, hbz⟩
  have HT := hid (below_t HT.out hbz)
  clear hbz
  go_simp
  refine hK.out _ _ HT.out ?_
  clear hK K
  try simp only [Act.put, List.setIfInBounds_toArray, List.set_cons_zero, List.set_cons_succ]
  refine wa_tkg 34 (some 57) (.bool false) rfl (by kernel_rfl) rfl rfl HT.out (fun w h0 => by go_simp) ?_
  try simp only [Act.put, List.setIfInBounds_toArray, List.set_cons_zero, List.set_cons_succ]
  refine wa_tkg 35 (some 58) (.bool false) rfl (by kernel_rfl) rfl rfl HT.out (fun w h0 => by go_simp) ?_
  try simp only [Act.put, List.setIfInBounds_toArray, List.set_cons_zero, List.set_cons_succ]
  refine wa_tk 36 (some 59) (.bool false) rfl (by kernel_rfl) rfl rfl HT.out (fun w h0 => by go_simp) ?_
  try simp only [Act.put, List.setIfInBounds_toArray, List.set_cons_zero, List.set_cons_succ]
  refine wa_done (by decide +kernel) ?_
  exact HQQ.out _ HT.out
end Go.Proofs.Ytbejjindkcjecaa
namespace Go.Proofs.Ytbejjindkcjecaa
open Go.RowKit Go
set_option linter.unusedVariables false
set_option linter.unusedSimpArgs false
set_option maxRecDepth 100000 in
set_option maxHeartbeats 8000000 in
theorem A19nbef {Q : Exit → Act → World → Prop} {Z W : World} {u1 u4 u6 u7 u8 u9 u11 u13 u14 u15 u16 u17 u18 u19 u20 u21 u22 u23 u24 u25 u26 u27 u28 u29 u30 u31 u32 u33 u34 u35 u36 u37 u38 u39 u40 u41 u42 u43 u44 u45 u46 u47 u48 u49 u50 u51 u52 u53 u54 u55 u56 u57 u58 u59 u60 u61 u62 u63 u64 u65 u66 u67 u68 u69 u70 u71 u72 u73 u74 u75 : Value} {b o n c j Bk Bx : Nat} {K0 K1 K2 t q : Int} {f g : FA}
    (HT : Hid (Below Z.heap.size Z W))
    (HA : Hid (∀ W, Below Z.heap.size Z W → At8 W Bx 0 f))
    (HKC : Hid (∀ W, Below Z.heap.size Z W → W.cell? ⟨Bk, 0, none⟩ = some (.int .i64 K0) ∧ W.cell? ⟨Bk, 1, none⟩ = some (.int .i64 K1) ∧ W.cell? ⟨Bk, 2, none⟩ = some (.int .i64 K2)))
    (HG : Hid (Try.prog.eqGuardType Try.prog.depth 24 = false)) (HCP : Hid (n ≤ c ∧ c ≤ 9223372036854775807))
    (HKE : Hid (∀ w, (Op.equalIn 10000 24 (.agg #[.int .i64 f.kind, .int .i64 f.subj, .int .i64 f.obj]) (KV (K0, K1, K2))).run Try.prog w = .ok true w))
    (HF : Hid ( f.frm ≤ t))
    (HTT : Hid ( t < f.to))
    (HQ : Hid ( f.known ≤ q))
    (HB : Hid (∀ W, Below Z.heap.size Z W → At8 W b (o + j * 8) g)) (HJL : Hid (j < n))
    (B1 : Hid (∀ W, Calls Try.prog 30 #[FV f, FV g] W fun e w' => e = .returned (.bool false) ∧ Below W.heap.size W w'))
    (hQ : ∀ W', Below Z.heap.size Z W' → Q .normal { tmps := #[.slice (some ⟨b, o, none⟩) n c, u1, .int .i64 t, .int .i64 q, u4, .pointer (some ⟨Bk, 0, none⟩), u6, u7, u8, u9, .int .i64 (j : Int), u11, .pointer (some ⟨Bx, 0, none⟩), u13, u14, u15, u16, u17, u18, u19, u20, u21, u22, .pointer (some ⟨Bx, 0, none⟩), .agg #[.int .i64 f.kind, .int .i64 f.subj, .int .i64 f.obj], KV (K0, K1, K2), .bool true, .bool true, .pointer (some ⟨Bx, 4, none⟩), .pointer (some ⟨Bx, 4, none⟩), .int .i64 f.frm, .int .i64 t, .bool true, .bool true, .bool true, .int .i64 t, .pointer (some ⟨Bx, 4, none⟩), .pointer (some ⟨Bx, 5, none⟩), .int .i64 f.to, .bool true, .bool true, .bool true, .pointer (some ⟨Bx, 6, none⟩), .int .i64 f.known, .int .i64 q, .bool true, .bool true, .bool true, .int .i64 (j : Int), .bool false, .bool false, FV f, .slice (some ⟨b, o, none⟩) n c, .int .i64 (j : Int), .pointer (some ⟨b, o + j * 8, none⟩), FV g, .bool false, .bool true, .bool true, .bool true, u60, u61, u62, u63, u64, u65, u66, u67, u68, u69, u70, u71, u72, u73, u74, u75], defers := [] } W') :
    (Code.region 6 #[{ dst := some 23, op := Op.fieldAddr 28 (Operand.tmp 12) 0, type := 0, pos := "ref.go:52", after := #[], guard := none }, { dst := some 24, op := Op.load 24 (Operand.tmp 23), type := 24, pos := "ref.go:52", after := #[{ on := 0, ground := Ground.data }], guard := none }, { dst := some 25, op := Op.load 24 (Operand.tmp 5), type := 24, pos := "ref.go:52", after := #[], guard := none }, { dst := some 26, op := Op.binOp BinOp.eql 24 (Operand.tmp 24) (Operand.tmp 25) 24, type := 4, pos := "ref.go:52", after := #[{ on := 1, ground := Ground.data }, { on := 2, ground := Ground.data }], guard := none }, { dst := some 27, op := Op.move (Operand.tmp 26), type := 4, pos := "ref.go:52", after := #[{ on := 3, ground := Ground.data }], guard := none }, { dst := some 28, op := Op.fieldAddr 28 (Operand.tmp 12) 2, type := 0, pos := "ref.go:52", after := #[{ on := 4, ground := Ground.guard }], guard := some (4, true) }, { dst := some 29, op := Op.fieldAddr 26 (Operand.tmp 28) 0, type := 0, pos := "ref.go:52", after := #[{ on := 5, ground := Ground.data }, { on := 4, ground := Ground.guard }], guard := some (4, true) }, { dst := some 30, op := Op.load 3 (Operand.tmp 29), type := 3, pos := "ref.go:52", after := #[{ on := 6, ground := Ground.data }, { on := 4, ground := Ground.guard }], guard := some (4, true) }, { dst := some 31, op := Op.move (Operand.tmp 2), type := 3, pos := "ref.go:52", after := #[{ on := 4, ground := Ground.guard }], guard := some (4, true) }, { dst := some 32, op := Op.binOp BinOp.leq 3 (Operand.tmp 30) (Operand.tmp 31) 3, type := 4, pos := "ref.go:52", after := #[{ on := 7, ground := Ground.data }, { on := 8, ground := Ground.data }, { on := 4, ground := Ground.guard }], guard := some (4, true) }, { dst := some 33, op := Op.pick (Operand.tmp 27) (Operand.tmp 32) (Operand.const (Value.bool false)), type := 4, pos := "ref.go:52", after := #[{ on := 4, ground := Ground.data }, { on := 9, ground := Ground.data }], guard := none }, { dst := some 34, op := Op.move (Operand.tmp 33), type := 4, pos := "ref.go:52", after := #[{ on := 10, ground := Ground.data }, { on := 4, ground := Ground.chain }], guard := none }, { dst := some 35, op := Op.move (Operand.tmp 2), type := 3, pos := "ref.go:52", after := #[{ on := 11, ground := Ground.guard }], guard := some (11, true) }, { dst := some 36, op := Op.fieldAddr 28 (Operand.tmp 12) 2, type := 0, pos := "ref.go:52", after := #[{ on := 11, ground := Ground.guard }], guard := some (11, true) }, { dst := some 37, op := Op.fieldAddr 26 (Operand.tmp 36) 1, type := 0, pos := "ref.go:52", after := #[{ on := 13, ground := Ground.data }, { on := 11, ground := Ground.guard }], guard := some (11, true) }, { dst := some 38, op := Op.load 3 (Operand.tmp 37), type := 3, pos := "ref.go:52", after := #[{ on := 14, ground := Ground.data }, { on := 11, ground := Ground.guard }], guard := some (11, true) }, { dst := some 39, op := Op.binOp BinOp.lss 3 (Operand.tmp 35) (Operand.tmp 38) 3, type := 4, pos := "ref.go:52", after := #[{ on := 12, ground := Ground.data }, { on := 15, ground := Ground.data }, { on := 11, ground := Ground.guard }], guard := some (11, true) }, { dst := some 40, op := Op.pick (Operand.tmp 34) (Operand.tmp 39) (Operand.const (Value.bool false)), type := 4, pos := "ref.go:52", after := #[{ on := 11, ground := Ground.data }, { on := 16, ground := Ground.data }], guard := none }, { dst := some 41, op := Op.move (Operand.tmp 40), type := 4, pos := "ref.go:52", after := #[{ on := 17, ground := Ground.data }, { on := 11, ground := Ground.chain }], guard := none }, { dst := some 42, op := Op.fieldAddr 28 (Operand.tmp 12) 3, type := 0, pos := "ref.go:52", after := #[{ on := 18, ground := Ground.guard }], guard := some (18, true) }, { dst := some 43, op := Op.load 3 (Operand.tmp 42), type := 3, pos := "ref.go:52", after := #[{ on := 19, ground := Ground.data }, { on := 18, ground := Ground.guard }], guard := some (18, true) }, { dst := some 44, op := Op.move (Operand.tmp 3), type := 3, pos := "ref.go:52", after := #[{ on := 18, ground := Ground.guard }], guard := some (18, true) }, { dst := some 45, op := Op.binOp BinOp.leq 3 (Operand.tmp 43) (Operand.tmp 44) 3, type := 4, pos := "ref.go:52", after := #[{ on := 20, ground := Ground.data }, { on := 21, ground := Ground.data }, { on := 18, ground := Ground.guard }], guard := some (18, true) }, { dst := some 46, op := Op.pick (Operand.tmp 41) (Operand.tmp 45) (Operand.const (Value.bool false)), type := 4, pos := "ref.go:52", after := #[{ on := 18, ground := Ground.data }, { on := 22, ground := Ground.data }], guard := none }, { dst := some 47, op := Op.move (Operand.tmp 46), type := 4, pos := "ref.go:52", after := #[{ on := 23, ground := Ground.data }, { on := 18, ground := Ground.chain }], guard := none }, { dst := some 48, op := Op.move (Operand.tmp 10), type := 3, pos := "ref.go:52", after := #[{ on := 24, ground := Ground.guard }], guard := some (24, true) }, { dst := some 49, op := Op.binOp BinOp.lss 3 (Operand.tmp 48) (Operand.const (Value.int IntKind.i64 0)) 3, type := 4, pos := "ref.go:52", after := #[{ on := 25, ground := Ground.data }, { on := 24, ground := Ground.guard }], guard := some (24, true) }, { dst := some 50, op := Op.move (Operand.tmp 49), type := 4, pos := "ref.go:52", after := #[{ on := 26, ground := Ground.data }, { on := 24, ground := Ground.chain }, { on := 24, ground := Ground.guard }], guard := some (24, true) }, { dst := some 51, op := Op.load 28 (Operand.tmp 12), type := 28, pos := "ref.go:52", after := #[{ on := 27, ground := Ground.guard }], guard := some (27, false) }, { dst := some 52, op := Op.move (Operand.tmp 0), type := 22, pos := "ref.go:52", after := #[{ on := 27, ground := Ground.guard }], guard := some (27, false) }, { dst := some 53, op := Op.move (Operand.tmp 10), type := 3, pos := "ref.go:52", after := #[{ on := 27, ground := Ground.guard }], guard := some (27, false) }, { dst := some 54, op := Op.indexAddr 22 (Operand.tmp 52) (Operand.tmp 53), type := 0, pos := "ref.go:52", after := #[{ on := 29, ground := Ground.data }, { on := 30, ground := Ground.data }, { on := 27, ground := Ground.guard }], guard := some (27, false) }, { dst := some 55, op := Op.load 28 (Operand.tmp 54), type := 28, pos := "ref.go:52", after := #[{ on := 31, ground := Ground.data }, { on := 27, ground := Ground.guard }], guard := some (27, false) }, { dst := some 56, op := Op.call { callee := Callee.value (Operand.func 30), args := #[Operand.tmp 51, Operand.tmp 55], argTypes := #[28, 28] }, type := 4, pos := "ref.go:52", after := #[{ on := 28, ground := Ground.data }, { on := 32, ground := Ground.data }, { on := 27, ground := Ground.chain }, { on := 27, ground := Ground.guard }], guard := some (27, false) }, { dst := some 57, op := Op.unOp UnOp.not 4 (Operand.tmp 56), type := 4, pos := "ref.go:52", after := #[{ on := 33, ground := Ground.data }, { on := 27, ground := Ground.guard }], guard := some (27, false) }, { dst := some 58, op := Op.pick (Operand.tmp 50) (Operand.const (Value.bool true)) (Operand.tmp 57), type := 4, pos := "ref.go:52", after := #[{ on := 27, ground := Ground.data }, { on := 34, ground := Ground.data }, { on := 24, ground := Ground.guard }], guard := some (24, true) }, { dst := some 59, op := Op.pick (Operand.tmp 47) (Operand.tmp 58) (Operand.const (Value.bool false)), type := 4, pos := "ref.go:52", after := #[{ on := 24, ground := Ground.data }, { on := 35, ground := Ground.data }], guard := none }] true).wp Try.prog Q { tmps := #[.slice (some ⟨b, o, none⟩) n c, u1, .int .i64 t, .int .i64 q, u4, .pointer (some ⟨Bk, 0, none⟩), u6, u7, u8, u9, .int .i64 (j : Int), u11, .pointer (some ⟨Bx, 0, none⟩), u13, u14, u15, u16, u17, u18, u19, u20, u21, u22, u23, u24, u25, u26, u27, u28, u29, u30, u31, u32, u33, u34, u35, u36, u37, u38, u39, u40, u41, u42, u43, u44, u45, u46, u47, u48, u49, u50, u51, u52, u53, u54, u55, u56, u57, u58, u59, u60, u61, u62, u63, u64, u65, u66, u67, u68, u69, u70, u71, u72, u73, u74, u75], defers := [] } W := by
  have HQQ := hid hQ
  clear hQ
  have HT := hid HT.out.drew
  refine wa_start (S := fun W => Below Z.heap.size Z W) (by kernel_rfl) HT.out ?_
  refine wa_tk 0 (some 23) (.pointer (some ⟨Bx, 0, none⟩)) rfl (by kernel_rfl) rfl rfl HT.out (fun w h0 => by go_simp) ?_
  try simp only [Act.put, List.setIfInBounds_toArray, List.set_cons_zero, List.set_cons_succ]
  refine wa_tk 1 (some 24) (.agg #[.int .i64 f.kind, .int .i64 f.subj, .int .i64 f.obj]) rfl (by kernel_rfl) rfl rfl HT.out (fun w h0 => by obtain ⟨x0, x1, x2, x3, x4, x5, x6, x7⟩ := HA.out _ h0; go_simp) ?_
  try simp only [Act.put, List.setIfInBounds_toArray, List.set_cons_zero, List.set_cons_succ]
  refine wa_tk 2 (some 25) (KV (K0, K1, K2)) rfl (by kernel_rfl) rfl rfl HT.out (fun w h0 => by obtain ⟨u0, u1, u2⟩ := HKC.out _ h0; go_simp) ?_
  try simp only [Act.put, List.setIfInBounds_toArray, List.set_cons_zero, List.set_cons_succ]
  refine wa_tk 3 (some 26) (.bool true) rfl (by kernel_rfl) rfl rfl HT.out (fun w h0 => by have hpe := HKE.out; have hg60 := HG.out; go_simp) ?_
  try simp only [Act.put, List.setIfInBounds_toArray, List.set_cons_zero, List.set_cons_succ]
  refine wa_tk 4 (some 27) (.bool true) rfl (by kernel_rfl) rfl rfl HT.out (fun w h0 => by go_simp) ?_
  try simp only [Act.put, List.setIfInBounds_toArray, List.set_cons_zero, List.set_cons_succ]
  refine wa_tkg 5 (some 28) (.pointer (some ⟨Bx, 4, none⟩)) rfl (by kernel_rfl) rfl rfl HT.out (fun w h0 => by go_simp) ?_
  try simp only [Act.put, List.setIfInBounds_toArray, List.set_cons_zero, List.set_cons_succ]
  refine wa_tkg 6 (some 29) (.pointer (some ⟨Bx, 4, none⟩)) rfl (by kernel_rfl) rfl rfl HT.out (fun w h0 => by go_simp) ?_
  try simp only [Act.put, List.setIfInBounds_toArray, List.set_cons_zero, List.set_cons_succ]
  refine wa_tkg 7 (some 30) (.int .i64 f.frm) rfl (by kernel_rfl) rfl rfl HT.out (fun w h0 => by obtain ⟨x0, x1, x2, x3, x4, x5, x6, x7⟩ := HA.out _ h0; go_simp) ?_
  try simp only [Act.put, List.setIfInBounds_toArray, List.set_cons_zero, List.set_cons_succ]
  refine wa_tkg 8 (some 31) (.int .i64 t) rfl (by kernel_rfl) rfl rfl HT.out (fun w h0 => by go_simp) ?_
  try simp only [Act.put, List.setIfInBounds_toArray, List.set_cons_zero, List.set_cons_succ]
  refine wa_tkg 9 (some 32) (.bool true) rfl (by kernel_rfl) rfl rfl HT.out (fun w h0 => by have hcmp := HF.out; (go_simp) <;> omega) ?_
  try simp only [Act.put, List.setIfInBounds_toArray, List.set_cons_zero, List.set_cons_succ]
  refine wa_tk 10 (some 33) (.bool true) rfl (by kernel_rfl) rfl rfl HT.out (fun w h0 => by go_simp) ?_
  try simp only [Act.put, List.setIfInBounds_toArray, List.set_cons_zero, List.set_cons_succ]
  refine wa_tk 11 (some 34) (.bool true) rfl (by kernel_rfl) rfl rfl HT.out (fun w h0 => by go_simp) ?_
  try simp only [Act.put, List.setIfInBounds_toArray, List.set_cons_zero, List.set_cons_succ]
  refine wa_tkg 12 (some 35) (.int .i64 t) rfl (by kernel_rfl) rfl rfl HT.out (fun w h0 => by go_simp) ?_
  try simp only [Act.put, List.setIfInBounds_toArray, List.set_cons_zero, List.set_cons_succ]
  refine wa_tkg 13 (some 36) (.pointer (some ⟨Bx, 4, none⟩)) rfl (by kernel_rfl) rfl rfl HT.out (fun w h0 => by go_simp) ?_
  try simp only [Act.put, List.setIfInBounds_toArray, List.set_cons_zero, List.set_cons_succ]
  refine wa_tkg 14 (some 37) (.pointer (some ⟨Bx, 5, none⟩)) rfl (by kernel_rfl) rfl rfl HT.out (fun w h0 => by go_simp) ?_
  try simp only [Act.put, List.setIfInBounds_toArray, List.set_cons_zero, List.set_cons_succ]
  refine wa_tkg 15 (some 38) (.int .i64 f.to) rfl (by kernel_rfl) rfl rfl HT.out (fun w h0 => by obtain ⟨x0, x1, x2, x3, x4, x5, x6, x7⟩ := HA.out _ h0; go_simp) ?_
  try simp only [Act.put, List.setIfInBounds_toArray, List.set_cons_zero, List.set_cons_succ]
  refine wa_tkg 16 (some 39) (.bool true) rfl (by kernel_rfl) rfl rfl HT.out (fun w h0 => by have hcmp := HTT.out; (go_simp) <;> omega) ?_
  try simp only [Act.put, List.setIfInBounds_toArray, List.set_cons_zero, List.set_cons_succ]
  refine wa_tk 17 (some 40) (.bool true) rfl (by kernel_rfl) rfl rfl HT.out (fun w h0 => by go_simp) ?_
  try simp only [Act.put, List.setIfInBounds_toArray, List.set_cons_zero, List.set_cons_succ]
  refine wa_tk 18 (some 41) (.bool true) rfl (by kernel_rfl) rfl rfl HT.out (fun w h0 => by go_simp) ?_
  try simp only [Act.put, List.setIfInBounds_toArray, List.set_cons_zero, List.set_cons_succ]
  refine wa_tkg 19 (some 42) (.pointer (some ⟨Bx, 6, none⟩)) rfl (by kernel_rfl) rfl rfl HT.out (fun w h0 => by go_simp) ?_
  try simp only [Act.put, List.setIfInBounds_toArray, List.set_cons_zero, List.set_cons_succ]
  refine wa_tkg 20 (some 43) (.int .i64 f.known) rfl (by kernel_rfl) rfl rfl HT.out (fun w h0 => by obtain ⟨x0, x1, x2, x3, x4, x5, x6, x7⟩ := HA.out _ h0; go_simp) ?_
  try simp only [Act.put, List.setIfInBounds_toArray, List.set_cons_zero, List.set_cons_succ]
  refine wa_tkg 21 (some 44) (.int .i64 q) rfl (by kernel_rfl) rfl rfl HT.out (fun w h0 => by go_simp) ?_
  try simp only [Act.put, List.setIfInBounds_toArray, List.set_cons_zero, List.set_cons_succ]
  refine wa_tkg 22 (some 45) (.bool true) rfl (by kernel_rfl) rfl rfl HT.out (fun w h0 => by have hcmp := HQ.out; (go_simp) <;> omega) ?_
  try simp only [Act.put, List.setIfInBounds_toArray, List.set_cons_zero, List.set_cons_succ]
  refine wa_tk 23 (some 46) (.bool true) rfl (by kernel_rfl) rfl rfl HT.out (fun w h0 => by go_simp) ?_
  try simp only [Act.put, List.setIfInBounds_toArray, List.set_cons_zero, List.set_cons_succ]
  refine wa_tk 24 (some 47) (.bool true) rfl (by kernel_rfl) rfl rfl HT.out (fun w h0 => by go_simp) ?_
  try simp only [Act.put, List.setIfInBounds_toArray, List.set_cons_zero, List.set_cons_succ]
  refine wa_tkg 25 (some 48) (.int .i64 (j : Int)) rfl (by kernel_rfl) rfl rfl HT.out (fun w h0 => by go_simp) ?_
  try simp only [Act.put, List.setIfInBounds_toArray, List.set_cons_zero, List.set_cons_succ]
  refine wa_tkg 26 (some 49) (.bool false) rfl (by kernel_rfl) rfl rfl HT.out (fun w h0 => by (go_simp) <;> omega) ?_
  try simp only [Act.put, List.setIfInBounds_toArray, List.set_cons_zero, List.set_cons_succ]
  refine wa_tkg 27 (some 50) (.bool false) rfl (by kernel_rfl) rfl rfl HT.out (fun w h0 => by go_simp) ?_
  try simp only [Act.put, List.setIfInBounds_toArray, List.set_cons_zero, List.set_cons_succ]
  refine wa_tkg 28 (some 51) (FV f) rfl (by kernel_rfl) rfl rfl HT.out (fun w h0 => by obtain ⟨x0, x1, x2, x3, x4, x5, x6, x7⟩ := HA.out _ h0; go_simp) ?_
  try simp only [Act.put, List.setIfInBounds_toArray, List.set_cons_zero, List.set_cons_succ]
  refine wa_tkg 29 (some 52) (.slice (some ⟨b, o, none⟩) n c) rfl (by kernel_rfl) rfl rfl HT.out (fun w h0 => by go_simp) ?_
  try simp only [Act.put, List.setIfInBounds_toArray, List.set_cons_zero, List.set_cons_succ]
  refine wa_tkg 30 (some 53) (.int .i64 (j : Int)) rfl (by kernel_rfl) rfl rfl HT.out (fun w h0 => by go_simp) ?_
  try simp only [Act.put, List.setIfInBounds_toArray, List.set_cons_zero, List.set_cons_succ]
  refine wa_tkg 31 (some 54) (.pointer (some ⟨b, o + j * 8, none⟩)) rfl (by kernel_rfl) rfl rfl HT.out (fun w h0 => by have hj := HJL.out; have hc := HCP.out; go_simp) ?_
  try simp only [Act.put, List.setIfInBounds_toArray, List.set_cons_zero, List.set_cons_succ]
  refine wa_tkg 32 (some 55) (FV g) rfl (by kernel_rfl) rfl rfl HT.out (fun w h0 => by obtain ⟨x0, x1, x2, x3, x4, x5, x6, x7⟩ := HB.out _ h0; go_simp) ?_
  try simp only [Act.put, List.setIfInBounds_toArray, List.set_cons_zero, List.set_cons_succ]
  refine wa_branch [33] (by decide +kernel) rfl ?_
  refine ar_opg 33 rfl rfl (fun K hK => ?_) ar_nil
  unfold Oper.wp
  go_simp
  go_at_call 30
  refine (B1.out _).mono ?_
  rintro e wz ⟨rfl, hbz⟩
  have HT := hid (below_t HT.out hbz)
  clear hbz
  go_simp
  refine hK.out _ _ HT.out ?_
  clear hK K
  try simp only [Act.put, List.setIfInBounds_toArray, List.set_cons_zero, List.set_cons_succ]
  refine wa_tkg 34 (some 57) (.bool true) rfl (by kernel_rfl) rfl rfl HT.out (fun w h0 => by go_simp) ?_
  try simp only [Act.put, List.setIfInBounds_toArray, List.set_cons_zero, List.set_cons_succ]
  refine wa_tkg 35 (some 58) (.bool true) rfl (by kernel_rfl) rfl rfl HT.out (fun w h0 => by go_simp) ?_
  try simp only [Act.put, List.setIfInBounds_toArray, List.set_cons_zero, List.set_cons_succ]
  refine wa_tk 36 (some 59) (.bool true) rfl (by kernel_rfl) rfl rfl HT.out (fun w h0 => by go_simp) ?_
  try simp only [Act.put, List.setIfInBounds_toArray, List.set_cons_zero, List.set_cons_succ]
  refine wa_done (by decide +kernel) ?_
  exact HQQ.out _ HT.out
end Go.Proofs.Ytbejjindkcjecaa
