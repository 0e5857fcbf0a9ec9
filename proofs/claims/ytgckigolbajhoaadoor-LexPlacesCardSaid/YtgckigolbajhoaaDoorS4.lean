/- Contract: Text. -/
import Derived.Test.YtgckigolbajhoaaDoorS3
namespace Go.Proofs.YtgckigolbajhoaaDoor
open Go.RowKit Go
set_option linter.unusedVariables false
set_option linter.unusedSimpArgs false
theorem made_length (n : Nat) : (madeCells #[Value.string ⟨#[]⟩] n).toList.length = n := by simp [madeCells]
theorem mkmap (l : List (List UInt8)) : (l.map (fun t => (⟨t.toArray⟩ : ByteArray))).map (·.data.toList) = l := by
  rw [List.map_map]; simp [Function.comp_def]
set_option maxRecDepth 100000 in
set_option maxHeartbeats 8000000 in
theorem Text_any (v : Value) (l : List Tk) (w : World) (hk : Konst w) (hv : KS w v l) (hl : l.length ≤ 10000) (ht : ∀ x ∈ l, x.t.length ≤ maxLen) (hj : l.all L9.vld = true → (Lib.join (l.map L9.tx) [32]).length ≤ 140737488355328) :
    Calls Tryd.prog 15 #[v] w fun e w' => e = .returned (.tuple #[.string ⟨(txt l).toArray⟩, .int .i64 (txe l)]) ∧ Below w.heap.size w w' := by
  obtain ⟨p, cap, rfl⟩ := hv.form
  have hg := hv.gr 4 kc_len (by omega)
  have HG := hid hg; have HK := hid hk; have HT := hid ht; have HL := hid hl; have HJ := hid hj
  obtain ⟨n, hn⟩ : ∃ n, n = l.length := ⟨_, rfl⟩
  rw [← hn] at hl ⊢
  have HN := hid hn
  have hmk : ∀ W, (Instr.makeSlice 39 (.int .i64 n) (.int .i64 n)).run Tryd.prog W = .ok (.slice (some ⟨W.heap.size, 0, none⟩) n n) (W.alloc (.cells (madeCells #[.string ⟨#[]⟩] n) 9)) := fun W => run_make_row' (P := Tryd.prog) 39 9 (.string ⟨#[]⟩) 16 Tryd.underlying39 info9 rfl .i64 .i64 n (by omega) (by omega) W
  clear hg hk hv ht hj hn
  go_enter Tryd.func15, Tryd.ntmps15
  go_wp2_with fail
  obtain ⟨Z, hZ⟩ : ∃ Z, Z = w.alloc (.cells (madeCells #[.string ⟨#[]⟩] n) 9) := ⟨_, rfl⟩
  obtain ⟨bs, hbs⟩ : ∃ b, b = w.heap.size := ⟨_, rfl⟩
  have hW : Wr Z bs n l 0 := ⟨(madeCells #[.string ⟨#[]⟩] n).toList, by rw [hZ, hbs]; exact Blk.new w 9 _, made_length n, fun i x h => absurd h (by omega)⟩
  have hB : Below w.heap.size w Z := by rw [hZ]; exact (Below.refl _ w).alloc (Nat.le_refl _) _
  rw [← hbs, ← hZ]
  have HW := hid hW; have HB := hid hB; have HBS := hid (show w.heap.size ≤ bs ∧ bs < Z.heap.size by rw [hbs, hZ]; simp)
  clear hW hB hbs hZ hmk
  go_loopw [12] (fun i wr => ∃ k : Nat, k ≤ n ∧ i = .int .i64 k ∧ Below w.heap.size w wr ∧ Wr wr bs n l k ∧ Hid ((l.take k).all L9.vld = true)) (fun i _ => n - (intOf i).toNat)
  case atStart => exact ⟨0, by omega, rfl, HB.out, HW.out, hid rfl⟩
  case round =>
    obtain ⟨k, hk, rfl, hb, hw, hal⟩ := hrel
    have HBW := hid hb; have HWR := hid hw
    by_cases hlt : k < n
    · obtain ⟨x, hx⟩ := get_lt (l := l) (i := k) (by rw [← HN.out]; exact hlt)
      obtain ⟨b, o, hp, hbl, c0, c1, c2, c3⟩ := KR.at4 (HG.out.up hb) hx
      subst hp
      have HX := hid hx
      obtain ⟨xk, xt, xn, xa⟩ := x
      simp only at c0 c1 c2 c3
      have hbox : Below wr.heap.size wr (wr.alloc (.cells #[.int .i64 xk, .string ⟨xt.toArray⟩, .int .i64 xn, .int .i64 xa] 35)) := (Below.refl _ wr).alloc (Nat.le_refl _) _
      have HBX := hid hbox
      have HV := hid (isValid_any xk xn xa xt _ ((HK.out.up hb).up hbox) (HT.out _ (List.mem_of_getElem? hx)))
      clear hx hb hw hbox hbl
      cases hvl : L9.vld ⟨xk, xt, xn, xa⟩
      · rw [hvl] at HV
        have h1 := all_bad HX.out hvl
        have HR1 := hid (show txt l = [] by unfold txt; rw [if_neg (by rw [h1]; decide)])
        have HR2 := hid (show txe l = 90 by unfold txe; rw [if_neg (by rw [h1]; decide)])
        clear hvl h1
        go_wp2_with fail
        refine HV.out.mono ?_
        rintro e w2 ⟨rfl, hb2⟩
        have HB2 := hid (HBW.out.trans ((HBX.out.trans (hb2.mono HBX.out.size)).mono HBW.out.size))
        clear hb2
        go_wp2
        refine bodyPost_ret (by simp [results, Tryd.results15, go_sem]; rfl) rfl ?_
        exact ⟨by rw [HR1.out, HR2.out], HB2.out⟩
      · rw [hvl] at HV
        have HTX := hid (fun W (hW : Konst W) => textOf_any xk xn xa xt W hW hvl)
        have HAL := hid (all_take HX.out hal.out hvl)
        clear hvl
        go_wp2_with fail
        refine HV.out.mono ?_
        rintro e w2 ⟨rfl, hb2⟩
        have HB2 := hid (HBW.out.trans ((HBX.out.trans (hb2.mono HBX.out.size)).mono HBW.out.size))
        have HBR := hid (HBX.out.trans (hb2.mono HBX.out.size))
        have d0 := (hb2.cell (p := ⟨wr.heap.size, 0, none⟩) (by simp)).trans (cell_lit wr #[.int .i64 xk, .string ⟨xt.toArray⟩, .int .i64 xn, .int .i64 xa] 35 0 _ rfl)
        have d1 := (hb2.cell (p := ⟨wr.heap.size, 1, none⟩) (by simp)).trans (cell_lit wr #[.int .i64 xk, .string ⟨xt.toArray⟩, .int .i64 xn, .int .i64 xa] 35 1 _ rfl)
        have d2 := (hb2.cell (p := ⟨wr.heap.size, 2, none⟩) (by simp)).trans (cell_lit wr #[.int .i64 xk, .string ⟨xt.toArray⟩, .int .i64 xn, .int .i64 xa] 35 2 _ rfl)
        have d3 := (hb2.cell (p := ⟨wr.heap.size, 3, none⟩) (by simp)).trans (cell_lit wr #[.int .i64 xk, .string ⟨xt.toArray⟩, .int .i64 xn, .int .i64 xa] 35 3 _ rfl)
        clear hb2 c0 c1 c2 c3
        go_wp2_with fail
        refine (HTX.out w2 (HK.out.up HB2.out)).mono ?_
        rintro e w3 ⟨rfl, hb3⟩
        have HB3 := hid (HB2.out.trans (hb3.mono HB2.out.size))
        obtain ⟨cs, hcs, hcl, hct⟩ := HWR.out.ex
        have hcs3 : Blk w3 bs 9 cs := (hcs.below HBR.out hcs.lt).below hb3 (Nat.lt_of_lt_of_le hcs.lt HBR.out.size)
        obtain ⟨y, hy⟩ : ∃ y, cs[k]? = some y := ⟨_, List.getElem?_eq_getElem (by omega)⟩
        have hcy := hcs3.cell k y hy
        have hfy := hcs3.frozen k
        have HREL := hid (show Wr (w3.setCell ⟨bs, k, none⟩ (.string ⟨(L9.tx ⟨xk, xt, xn, xa⟩).toArray⟩)) bs n l (k + 1) from ⟨_, hcs3.set k _, by rw [List.length_set]; exact hcl, fun i x hi hx => by
          rcases Nat.lt_or_ge i k with h | h
          · rw [List.getElem?_set_ne (by omega)]; exact hct i x h hx
          · obtain rfl : i = k := by omega
            rw [List.getElem?_set_self (by omega)]
            have := HX.out; rw [hx] at this; cases this; rfl⟩)
        have HB4 := hid (show Below w.heap.size w (w3.setCell ⟨bs, k, none⟩ (.string ⟨(L9.tx ⟨xk, xt, xn, xa⟩).toArray⟩)) from HB3.out.setCell HBS.out.1 _)
        clear hb3 hcs hcl hct hcs3 hy d0 d1 d2 d3
        go_wp2
        go_roundw
        case rel => exact ⟨k + 1, by omega, by go_num, HB4.out, HREL.out, HAL⟩
        case measure => simp [intOf]; omega
    · obtain rfl : k = n := by omega
      have hall : l.all L9.vld = true := by have := hal.out; rwa [HN.out, List.take_length] at this
      have HR1 := hid (show txt l = Lib.join (l.map L9.tx) [32] from if_pos hall)
      have HR2 := hid (show txe l = 0 from if_pos hall)
      obtain ⟨cs, hcs, hcl, hct⟩ := hw.ex
      have hjn := Tryd.strings_Join bs 0 k ((l.map L9.tx).map (fun t => (⟨t.toArray⟩ : ByteArray))) ⟨#[32]⟩ wr (fun j x hx => by
        rw [Nat.zero_add]
        refine hcs.cell j _ ?_
        rw [List.map_map, List.getElem?_map] at hx
        obtain ⟨t, ht, htx⟩ := Option.map_eq_some_iff.1 hx
        rw [hct j t (by have := (List.getElem?_eq_some_iff.1 ht).1; have := HN.out; omega) ht, ← htx]; rfl) hcs.lt (by simp; have := HN.out; omega) (by simp; have := HN.out; omega) (by rw [mkmap]; exact HJ.out hall)
      rw [mkmap, List.length_map, List.length_map, ← HN.out] at hjn
      have HJN := hid hjn
      clear hjn hcs hcl hct hw hb hall
      go_wp2_with fail
      refine HJN.out.mono ?_
      rintro e w2 ⟨rfl, hb2⟩
      have HB2 := hid (HBW.out.trans (hb2.mono HBW.out.size))
      clear hb2
      go_wp2
      refine bodyPost_ret (by simp [results, Tryd.results15, go_sem]; rfl) rfl ?_
      exact ⟨by rw [HR1.out, HR2.out], HB2.out⟩
end Go.Proofs.YtgckigolbajhoaaDoor
