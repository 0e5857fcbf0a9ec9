/- Contract: touched. -/
import Derived.Test.YtbejjindkcjecaaO
namespace Go.Proofs.Ytbejjindkcjecaa
open Go.RowKit Go
set_option linter.unusedVariables false
set_option linter.unusedSimpArgs false
/-- known at only one of the two times -/
def dif1 (q q' : Int) (f : FA) : Bool := decide (f.known ≤ q) != decide (f.known ≤ q')
/-- a fact of the key is -/
def Tch (q q' : Int) (l : List FA) (k : KE) : Bool := l.any fun f => decide (f.key = k) && dif1 q q' f
def ofKey (k : KE) (l : List FA) : List FA := l.filter fun f => decide (f.key = k)
def WK (l : List FA) : Prop := ∀ f ∈ l, kwf f.key
theorem tch_snoc (q q' : Int) (l : List FA) (f : FA) (k : KE) : Tch q q' (l ++ [f]) k = (Tch q q' l k || (decide (f.key = k) && dif1 q q' f)) := by simp [Tch, List.any_append]
theorem ofKey_snoc (k : KE) (l : List FA) (f : FA) : ofKey k (l ++ [f]) = ofKey k l ++ (if f.key = k then [f] else []) := by
  unfold ofKey; rw [List.filter_append, List.filter_cons, List.filter_nil]; by_cases h : f.key = k <;> simp [h]
theorem ofKey_length (k : KE) (l : List FA) : (ofKey k l).length ≤ l.length := List.length_filter_le _ _
/-- an element that has just been laid is appended: the row stays where it was, or is new -/
theorem app_fact2 {w : World} {base : Nat} {v : Value} {l : List FA} (h : FO w base v l) (x : FA) (hn : l.length ≤ 1000000) (hb : base ≤ w.heap.size) :
    ∃ g cap w', (Builtin.append_ #[22, 22] 22 #[v, .slice (some ⟨w.heap.size, 0, none⟩) 1 1]).run Try.prog (w.alloc (.cells #[.int .i64 x.kind, .int .i64 x.subj, .int .i64 x.obj, .int .i64 x.val, .int .i64 x.frm, .int .i64 x.to, .int .i64 x.known, .int .i64 x.no] 28)) = .ok (.slice (some ⟨g, 0, none⟩) (l.length + 1) cap) w' ∧
      FO w' base (.slice (some ⟨g, 0, none⟩) (l.length + 1) cap) (l ++ [x]) ∧ (w.alloc (.cells #[.int .i64 x.kind, .int .i64 x.subj, .int .i64 x.obj, .int .i64 x.val, .int .i64 x.frm, .int .i64 x.to, .int .i64 x.known, .int .i64 x.no] 28)).grownBy w' v.ownBlock ∧ (v.ownBlock = some g ∨ w.heap.size ≤ g) := by
  obtain ⟨i, hi, hf⟩ := Option.map_eq_some_iff.1 info28
  simp only [Prod.mk.injEq] at hf
  obtain ⟨hz, hs, hbyt⟩ := hf
  obtain ⟨z, hz, hzs⟩ := Option.map_eq_some_iff.1 hz
  obtain ⟨g, cap, w', h6, h7, h8, h9, h10⟩ := run_append_lies (P := Try.prog) (w := w.alloc (.cells (fc x).toArray 28)) 22 22 base 28 i z 8 64 Try.underlying22 hi hz hs hbyt hzs (by omega) v l.length _ (h.alloc _) ⟨w.heap.size, 0, none⟩ 1 1 (fc x) (by rw [fc_len])
    (cells_new w (fc x) 28) (fc_one x) (by omega) (by unfold maxLen; omega) (by omega) (by simp; omega) _ rfl
  refine ⟨g, cap, w', h6, ?_, h8, ?_⟩
  · unfold FO GO
    rw [List.length_append, List.length_singleton, List.flatMap_append, List.flatMap_singleton]
    exact h7
  · rcases h9 with h9 | h9
    · exact .inl h9
    · right; simp at h9; omega
/-- the map holds the key's facts for each key that is touched -/
def TM (N base : Nat) (q q' : Int) (b : Nat) (L l : List FA) (W : World) : Prop := ∃ (n : Nat) (V : KE → Value), n ≤ N ∧ MK W b n (fun k => if Tch q q' L k then some (V k) else none) ∧ (∀ k, Tch q q' L k = true → FO W base (V k) (ofKey k l)) ∧
  ∀ k k', Tch q q' L k = true → Tch q q' L k' = true → k ≠ k' → ∀ j, (V k).ownBlock = some j → (V k').ownBlock ≠ some j
theorem tm_next {N base b : Nat} {q q' : Int} {L l : List FA} {W W1 W3 W4 : World} {f : FA} {n : Nat} {V : KE → Value} {C : Obj} {g cap c : Nat}
    (hT : Tch q q' L f.key = true) (hF : ∀ k, Tch q q' L k = true → FO W base (V k) (ofKey k l)) (hD : ∀ k k', Tch q q' L k = true → Tch q q' L k' = true → k ≠ k' → ∀ j, (V k).ownBlock = some j → (V k').ownBlock ≠ some j)
    (hn : n + 1 ≤ N) (hb : b < base) (h01 : Below W.heap.size W W1) (h13 : (W1.alloc C).grownBy W3 (V f.key).ownBlock) (ho : FO W3 base (.slice (some ⟨g, 0, none⟩) c cap) (ofKey f.key l ++ [f])) (hg : (V f.key).ownBlock = some g ∨ W1.heap.size ≤ g)
    (hm : MK W4 b (n + 1) (fun x => if x = f.key then some (.slice (some ⟨g, 0, none⟩) c cap) else if Tch q q' L x then some (V x) else none)) (h34 : W3.grownBy W4 (some b)) :
    TM N base q q' b L (l ++ [f]) W4 := by
  obtain ⟨V', hV1, hV2⟩ : ∃ V' : KE → Value, V' f.key = .slice (some ⟨g, 0, none⟩) c cap ∧ ∀ k, k ≠ f.key → V' k = V k := ⟨fun k => if k = f.key then .slice (some ⟨g, 0, none⟩) c cap else V k, if_pos rfl, fun k h => if_neg h⟩
  refine ⟨n + 1, V', hn, hm.congr (fun k _ => ?_), fun k hk => ?_, fun k k' hk hk' hne j => ?_⟩
  · by_cases e : k = f.key
    · rw [if_pos e, e, if_pos hT, hV1]
    · rw [if_neg e, hV2 k e]
  · by_cases e : k = f.key
    · subst e
      rw [hV1, ofKey_snoc, if_pos rfl]
      exact ho.kept h34 (fun j hj e => by have := (ho.lt j hj).1; cases e; omega)
    · rw [hV2 k e, ofKey_snoc, if_neg (fun x => e x.symm), List.append_nil]
      have h1 : FO W1 base (V k) (ofKey k l) := (hF k hk).ups h01
      have h2 : FO (W1.alloc C) base (V k) (ofKey k l) := h1.alloc _
      have h3 : FO W3 base (V k) (ofKey k l) := h2.kept h13 (fun j hj => hD k f.key hk hT e j hj)
      exact h3.kept h34 (fun j hj e => by have := (h3.lt j hj).1; cases e; omega)
  · have lt : ∀ k, Tch q q' L k = true → ∀ j, (V k).ownBlock = some j → j < W1.heap.size := fun k hk j hj => Nat.lt_of_lt_of_le ((hF k hk).lt j hj).2 h01.size
    by_cases e : k = f.key
    · have e' : k' ≠ f.key := fun x => hne (e.trans x.symm)
      rw [e, hV1, hV2 k' e']
      intro hj hj'
      simp [Value.ownBlock] at hj
      subst hj
      rcases hg with hg | hg
      · exact hD f.key k' hT hk' (fun x => e' x.symm) _ hg hj'
      · have := lt k' hk' _ hj'; omega
    · rw [hV2 k e]
      by_cases e' : k' = f.key
      · rw [e', hV1]
        intro hj hj'
        simp [Value.ownBlock] at hj'
        subst hj'
        rcases hg with hg | hg
        · exact hD k f.key hk hT e _ hj hg
        · have := lt k hk _ hj; omega
      · rw [hV2 k' e']; exact hD k k' hk hk' hne j
theorem st_mapUpdate {o : Oper} {a : Act} {w : World} {K : Act → World → Prop} {Q : Exit → Act → World → Prop} (t : TypeId) (m x y : Operand) (hop : o.op = Op.mapUpdate t m x y) (vm vx vy : Value) (w' : World) (hm : a.eval m = vm) (hx : a.eval x = vx) (hy : a.eval y = vy)
    (hrun : (Instr.mapUpdate t vm vx vy).run Try.prog w = .ok () w') (h : K (a.put o.dst undef) w') : Oper.wp Try.prog o a w K Q := by
  unfold Oper.wp
  simp [execOp, hop, hm, hx, hy, hrun, Result.andThen]
  simp [Oper.upon]
  exact h
set_option maxRecDepth 100000 in
set_option maxHeartbeats 4000000 in
theorem touched_any (v : Value) (L : List FA) (q q' : Int) (w : World) (hv : FS w v L) (hL : L.length ≤ 1000000) (hwk : WK L) :
    Calls Try.prog 39 #[v, .int .i64 q, .int .i64 q'] w fun e w' => ∃ b, e = .returned (.map (some b)) ∧ TM (L.length + L.length) (w.heap.size + 1) q q' b L L w' ∧ Below w.heap.size w w' ∧ b = w.heap.size := by
  obtain ⟨p, c, rfl⟩ := hv.form
  have hr : FR p w.heap.size L w := hv.gr 8 fc_len (by omega)
  obtain ⟨m, hn⟩ : ∃ m, m = L.length := ⟨_, rfl⟩
  rw [← hn] at hL ⊢
  have HR := hid hr; have HN := hid hn; have HWK := hid hwk
  have HM := hid (MK.made w)
  have HB0 := hid ((Below.refl _ w).alloc (Nat.le_refl _) (.map #[] 0))
  have hmm := @run_makeMap Try.prog
  clear hr hv hn hwk
  go_enter Try.func39, Try.ntmps39
  go_wp2
  clear hmm
  obtain ⟨B, hB⟩ : ∃ B, B = w.heap.size := ⟨_, rfl⟩
  rw [← hB] at HM ⊢
  have HBB := hid hB
  clear hB
  go_loopw [17] (fun i wr => ∃ n : Nat, n ≤ m ∧ i = .int .i64 n ∧ Hid (∃ z, z ≤ n ∧ MK wr B z (fun k => if Tch q q' (L.take n) k then some (.slice none 0 0) else none)) ∧ Hid (Below w.heap.size w wr)) (fun i _ => m - (intOf i).toNat)
  case atStart => exact ⟨0, by omega, rfl, hid ⟨0, by omega, HM.out⟩, HB0⟩
  case round =>
    obtain ⟨n, hn, rfl, hmk, hbl⟩ := hrel
    by_cases hlt : n < m
    · obtain ⟨f, hf⟩ := get_lt (l := L) (i := n) (by rw [← HN.out]; exact hlt)
      obtain ⟨b, o, rfl, hb, x0, x1, x2, x3, x4, x5, x6, x7⟩ := (HR.out.up hbl.out).at8 hf
      have hts := fun k => tch_snoc q q' (L.take n) f k
      rw [← take_snoc hf] at hts
      have hk := HWK.out f (List.mem_of_getElem? hf)
      obtain ⟨z, hz, hmk⟩ := hmk.out
      have al := hid (hbl.out.alloc hbl.out.size (.cells #[.int .i64 f.kind, .int .i64 f.subj, .int .i64 f.obj, .int .i64 f.val, .int .i64 f.frm, .int .i64 f.to, .int .i64 f.known, .int .i64 f.no] 28))
      have hmk2 := hmk.alloc (.cells #[.int .i64 f.kind, .int .i64 f.subj, .int .i64 f.obj, .int .i64 f.val, .int .i64 f.frm, .int .i64 f.to, .int .i64 f.known, .int .i64 f.no] 28)
      have HTS := hid hts
      clear hf hb hts hmk
      cases hq1 : decide (f.known ≤ q) <;> cases hq2 : decide (f.known ≤ q')
      all_goals first
        | (have hd : dif1 q q' f = false := by unfold dif1; rw [hq1, hq2]; rfl
           have HMK := hid (show ∃ z, z ≤ n + 1 ∧ MK (wr.alloc (.cells #[.int .i64 f.kind, .int .i64 f.subj, .int .i64 f.obj, .int .i64 f.val, .int .i64 f.frm, .int .i64 f.to, .int .i64 f.known, .int .i64 f.no] 28)) B z (fun k => if Tch q q' (L.take (n + 1)) k then some (.slice none 0 0) else none) from ⟨z, by omega, hmk2.congr (fun k _ => by rw [HTS.out k, hd, Bool.and_false, Bool.or_false])⟩)
           clear hmk2 hd hk
           go_wp2
           go_roundw
           case rel => exact ⟨n + 1, by omega, by go_num, HMK, al⟩
           case measure => simp [intOf]; omega)
        | (have hd : dif1 q q' f = true := by unfold dif1; rw [hq1, hq2]; rfl
           obtain ⟨W', h1, h2, h3⟩ := hmk2.store (by omega) hk (.slice none 0 0)
           have h1' : (Instr.mapUpdate 71 (.map (some B)) (.agg #[.int .i64 f.kind, .int .i64 f.subj, .int .i64 f.obj]) (.slice none 0 0)).run Try.prog (wr.alloc (.cells #[.int .i64 f.kind, .int .i64 f.subj, .int .i64 f.obj, .int .i64 f.val, .int .i64 f.frm, .int .i64 f.to, .int .i64 f.known, .int .i64 f.no] 28)) = .ok () W' := h1
           have HMK := hid (show ∃ z, z ≤ n + 1 ∧ MK W' B z (fun k => if Tch q q' (L.take (n + 1)) k then some (.slice none 0 0) else none) from ⟨z + 1, by omega, h2.congr (fun k _ => by
             rw [HTS.out k, hd, Bool.and_true]
             by_cases e : k = f.key
             · rw [if_pos e, if_pos (by simp [e])]
             · rw [if_neg e, show decide (f.key = k) = false from decide_eq_false (fun x => e x.symm), Bool.or_false])⟩)
           have HBL := hid (al.out.grown h3 al.out.size (fun j hj => by cases hj; have := HBB.out; omega))
           clear hmk2 hd hk h1 h2 h3
           go_wp2
           go_roundw
           case rel => exact ⟨n + 1, by omega, by go_num, HMK, HBL⟩
           case measure => simp [intOf]; omega)
    · have hd : L.take n = L := by rw [show n = L.length by have := HN.out; omega, List.take_length]
      obtain ⟨z0, hz0, hmk0⟩ := hmk.out
      rw [hd] at hmk0
      have HT0 := hid (show TM (m + 0) (w.heap.size + 1) q q' B L (L.take 0) wr from ⟨z0, fun _ => .slice none 0 0, by omega, hmk0, fun k _ => go_nil _ _, fun k k' _ _ _ j hj => by simp [Value.ownBlock] at hj⟩)
      have hlt0 := hmk0.lt
      have hlt1 : w.heap.size + 1 ≤ wr.heap.size := by have := HBB.out; omega
      clear hmk hmk0 hd HM hlt0
      go_wp2
      go_loopw [36] (fun i wr => ∃ n : Nat, n ≤ m ∧ i = .int .i64 n ∧ Hid (TM (m + n) (w.heap.size + 1) q q' B L (L.take n) wr) ∧ Hid (Below w.heap.size w wr) ∧ w.heap.size + 1 ≤ wr.heap.size) (fun i _ => m - (intOf i).toNat)
      case atStart => exact ⟨0, by omega, rfl, HT0, hbl, hlt1⟩
      case round =>
        obtain ⟨n, hn, rfl, htm, hbl, hszr⟩ := hrel
        by_cases hlt : n < m
        · obtain ⟨f, hf⟩ := get_lt (l := L) (i := n) (by rw [← HN.out]; exact hlt)
          obtain ⟨b, o, rfl, hb, x0, x1, x2, x3, x4, x5, x6, x7⟩ := (HR.out.up hbl.out).at8 hf
          have hk := HWK.out f (List.mem_of_getElem? hf)
          have hts := take_snoc hf
          obtain ⟨z, V, hz, hmk, hF, hD⟩ := htm.out
          have al := hid (hbl.out.alloc hbl.out.size (.cells #[.int .i64 f.kind, .int .i64 f.subj, .int .i64 f.obj, .int .i64 f.val, .int .i64 f.frm, .int .i64 f.to, .int .i64 f.known, .int .i64 f.no] 28))
          have hmk2 := hmk.alloc (.cells #[.int .i64 f.kind, .int .i64 f.subj, .int .i64 f.obj, .int .i64 f.val, .int .i64 f.frm, .int .i64 f.to, .int .i64 f.known, .int .i64 f.no] 28)
          have hlk := hmk2.look_ok hk
          have HTS := hid hts; have HF := hid hF; have HD := hid hD; have HMK := hid hmk2; have HK := hid hk
          clear hf hb hts hmk hF hD hmk2 htm hk
          cases hT : Tch q q' L f.key with
          | false =>
            rw [hT] at hlk
            have hlk' : (Instr.lookup 71 (.map (some B)) (.agg #[.int .i64 f.kind, .int .i64 f.subj, .int .i64 f.obj]) true).run Try.prog (wr.alloc (.cells #[.int .i64 f.kind, .int .i64 f.subj, .int .i64 f.obj, .int .i64 f.val, .int .i64 f.frm, .int .i64 f.to, .int .i64 f.known, .int .i64 f.no] 28)) = .ok (.tuple #[.slice none 0 0, .bool false]) (wr.alloc (.cells #[.int .i64 f.kind, .int .i64 f.subj, .int .i64 f.obj, .int .i64 f.val, .int .i64 f.frm, .int .i64 f.to, .int .i64 f.known, .int .i64 f.no] 28)) := hlk
            have HTM := hid (show TM (m + (n + 1)) (w.heap.size + 1) q q' B L (L.take (n + 1)) (wr.alloc (.cells #[.int .i64 f.kind, .int .i64 f.subj, .int .i64 f.obj, .int .i64 f.val, .int .i64 f.frm, .int .i64 f.to, .int .i64 f.known, .int .i64 f.no] 28)) from ⟨z, V, by omega, HMK.out, fun k hk => by
              rw [HTS.out, ofKey_snoc, if_neg (fun e => by rw [e, hk] at hT; cases hT), List.append_nil]
              exact (HF.out k hk).alloc _, HD.out⟩)
            clear hlk hT
            go_wp2
            go_roundw
            case rel => exact ⟨n + 1, by omega, by go_num, HTM, al, by simp; omega⟩
            case measure => simp [intOf]; omega
          | true =>
            rw [hT] at hlk
            have hlk' : (Instr.lookup 71 (.map (some B)) (.agg #[.int .i64 f.kind, .int .i64 f.subj, .int .i64 f.obj]) true).run Try.prog (wr.alloc (.cells #[.int .i64 f.kind, .int .i64 f.subj, .int .i64 f.obj, .int .i64 f.val, .int .i64 f.frm, .int .i64 f.to, .int .i64 f.known, .int .i64 f.no] 28)) = .ok (.tuple #[V f.key, .bool true]) (wr.alloc (.cells #[.int .i64 f.kind, .int .i64 f.subj, .int .i64 f.obj, .int .i64 f.val, .int .i64 f.frm, .int .i64 f.to, .int .i64 f.known, .int .i64 f.no] 28)) := hlk
            have HT := hid hT
            clear hlk hT
            have hsz1 := al.out.size
            simp only [World.size_alloc] at hsz1
            obtain ⟨Wd, hWd⟩ : ∃ Wd, Wd = (wr.alloc (.cells #[.int .i64 f.kind, .int .i64 f.subj, .int .i64 f.obj, .int .i64 f.val, .int .i64 f.frm, .int .i64 f.to, .int .i64 f.known, .int .i64 f.no] 28)).drew := ⟨_, rfl⟩
            have hszd : Wd.heap.size = wr.heap.size + 1 := by rw [hWd]; show (wr.alloc _).heap.size = _; simp
            have hbd : Below wr.heap.size wr Wd := by rw [hWd]; exact ((Below.refl _ wr).alloc (Nat.le_refl _) _).drew
            have hmd : MK Wd B z (fun k => if Tch q q' L k then some (V k) else none) := by rw [hWd]; exact HMK.out
            have hbx : Blk Wd wr.heap.size 28 (fc f) := by rw [hWd]; exact Blk.new wr 28 (fc f)
            have hfd : FO Wd (w.heap.size + 1) (V f.key) (ofKey f.key (L.take n)) := (HF.out _ HT.out).ups hbd
            obtain ⟨g, cap, W3, happ, ho3, hg3, hgb⟩ := app_fact2 hfd f (by
              have h1 := ofKey_length f.key (L.take n)
              have h2 : (L.take n).length ≤ n := by rw [List.length_take]; omega
              omega) (by omega)
            have hown : ∀ j, (V f.key).ownBlock = some j → w.heap.size + 1 ≤ j ∧ j < Wd.heap.size := fun j hj => hfd.lt j hj
            have hownr : ∀ j, (V f.key).ownBlock = some j → j < wr.heap.size := fun j hj => ((HF.out _ HT.out).lt j hj).2
            have hm3 : MK W3 B z (fun k => if Tch q q' L k then some (V k) else none) := (hmd.alloc _).kept hg3 (fun e => by have := (hown _ e.symm).1; have := HBB.out; omega)
            obtain ⟨W4, hmu, hm4, hg4⟩ := hm3.store (k := f.key) (by omega) HK.out (.slice (some ⟨g, 0, none⟩) ((ofKey f.key (L.take n)).length + 1) cap)
            have hb3 : Blk W3 wr.heap.size 28 (fc f) := (hbx.alloc _).kept hg3 (fun e => by have := hownr _ e.symm; omega)
            have hb4 : Blk W4 wr.heap.size 28 (fc f) := hb3.kept hg4 (fun e => by have := HBB.out; cases e; omega)
            have hbl3 : Below w.heap.size w W3 := ((hbl.out.trans (hbd.mono hbl.out.size)).alloc (by omega) (.cells #[.int .i64 f.kind, .int .i64 f.subj, .int .i64 f.obj, .int .i64 f.val, .int .i64 f.frm, .int .i64 f.to, .int .i64 f.known, .int .i64 f.no] 28)).grown hg3 (by simp; omega) (fun j hj => by have := (hown j hj).1; omega)
            have hbl4 := hid (hbl3.grown hg4 hbl3.size (fun j hj => by cases hj; have := HBB.out; omega))
            have HTM := hid (show TM (m + (n + 1)) (w.heap.size + 1) q q' B L (L.take (n + 1)) W4 from by
              rw [HTS.out]
              exact (tm_next (c := (ofKey f.key (L.take n)).length + 1) HT.out HF.out HD.out (by omega) (by have := HBB.out; omega) hbd hg3 ho3 hgb hm4 hg4 : TM (m + (n + 1)) (w.heap.size + 1) q q' B L (L.take n ++ [f]) W4))
            have hsz4 : w.heap.size + 1 ≤ W4.heap.size := by have := hb4.lt; omega
            have HAPP := hid happ; have HMU := hid hmu; have HT3 := hid hb3; have HT4 := hid hb4; have HT0 := hid hbx
            obtain ⟨Bx, hBx⟩ : ∃ Bx, Bx = wr.heap.size := ⟨_, rfl⟩
            clear hfd hmd happ ho3 hg3 hgb hown hownr hm3 hmu hm4 hg4 hb3 hb4 hbl3 hbx HF HD HMK hbd
            go_upto_region 13 with fail
            rw [← hBx] at HT3 HT4 HT0 ⊢
            rw [hWd] at HT0
            clear hBx hszd hsz1
            refine wa_start (S := fun W => Blk W Bx 28 (fc f)) (by kernel_rfl) HT0.out ?_
            rw [← hWd] at HT0 ⊢
            clear hWd
            have HT := HT0
            refine wa_tk 0 (some 48) (.map (some B)) rfl (by kernel_rfl) rfl rfl HT.out (fun w h0 => by go_simp) ?_
            try simp only [Act.put, List.setIfInBounds_toArray, List.set_cons_zero, List.set_cons_succ]
            refine wa_tk 1 (some 49) (.pointer (some ⟨Bx, 0, none⟩)) rfl (by kernel_rfl) rfl rfl HT.out (fun w h0 => by go_simp) ?_
            try simp only [Act.put, List.setIfInBounds_toArray, List.set_cons_zero, List.set_cons_succ]
            refine wa_tk 2 (some 50) (.agg #[.int .i64 f.kind, .int .i64 f.subj, .int .i64 f.obj]) rfl (by kernel_rfl) rfl rfl HT.out (fun w h0 => by have a0 := h0.cell 0 _ rfl; have a1 := h0.cell 1 _ rfl; have a2 := h0.cell 2 _ rfl; go_simp) ?_
            try simp only [Act.put, List.setIfInBounds_toArray, List.set_cons_zero, List.set_cons_succ]
            refine wa_tk 3 (some 51) (V f.key) rfl (by kernel_rfl) rfl rfl HT.out (fun w h0 => by go_simp) ?_
            try simp only [Act.put, List.setIfInBounds_toArray, List.set_cons_zero, List.set_cons_succ]
            refine wa_tk 4 (some 52) (FV f) rfl (by kernel_rfl) rfl rfl HT.out (fun w h0 => by have a0 := h0.cell 0 _ rfl; have a1 := h0.cell 1 _ rfl; have a2 := h0.cell 2 _ rfl; have a3 := h0.cell 3 _ rfl; have a4 := h0.cell 4 _ rfl; have a5 := h0.cell 5 _ rfl; have a6 := h0.cell 6 _ rfl; have a7 := h0.cell 7 _ rfl; go_simp) ?_
            try simp only [Act.put, List.setIfInBounds_toArray, List.set_cons_zero, List.set_cons_succ]
            refine wa_branch [5] (by decide +kernel) rfl ?_
            refine ar_op 5 rfl rfl (fun K hK => ?_) ar_nil
            unfold Oper.wp
            go_simp
            have HT := hid (show Blk (Wd.alloc (.cells #[.int .i64 f.kind, .int .i64 f.subj, .int .i64 f.obj, .int .i64 f.val, .int .i64 f.frm, .int .i64 f.to, .int .i64 f.known, .int .i64 f.no] 28)) Bx 28 (fc f) from HT.out.alloc _)
            refine hK.out _ _ HT.out ?_
            clear hK K
            try simp only [Act.put, List.setIfInBounds_toArray, List.set_cons_zero, List.set_cons_succ]
            refine wa_branch [6] (by decide +kernel) rfl ?_
            refine ar_op 6 rfl rfl (fun K hK => ?_) ar_nil
            refine st_append (some 54) rfl (.tmp 51) (.tmp 53) 22 22 rfl rfl _ _ _ _ rfl rfl HAPP.out ?_
            have HT := hid HT3.out
            refine hK.out _ _ HT.out ?_
            clear hK K
            try simp only [Act.put, List.setIfInBounds_toArray, List.set_cons_zero, List.set_cons_succ]
            refine wa_branch [7] (by decide +kernel) rfl ?_
            refine ar_op 7 rfl rfl (fun K hK => ?_) ar_nil
            refine st_mapUpdate 71 (.tmp 48) (.tmp 50) (.tmp 54) rfl _ _ _ _ rfl rfl rfl HMU.out ?_
            have HT := hid HT4.out
            refine hK.out _ _ HT.out ?_
            clear hK K
            try simp only [Act.put, List.setIfInBounds_toArray, List.set_cons_zero, List.set_cons_succ]
            refine wa_done (by decide +kernel) ?_
            go_wp2
            go_roundw
            case rel => exact ⟨n + 1, by omega, by go_num, HTM, hbl4, hsz4⟩
            case measure => simp [intOf]; omega
        · have hd : L.take n = L := by rw [show n = L.length by have := HN.out; omega, List.take_length]
          rw [hd] at htm
          have HTM := hid (show TM (m + m) (w.heap.size + 1) q q' B L L wr from by
            obtain ⟨z, V, h1, h2⟩ := htm.out
            exact ⟨z, V, by omega, h2⟩)
          clear hd htm
          go_wp2
          go_ret
          exact ⟨B, rfl, HTM.out, hbl.out, HBB.out⟩
end Go.Proofs.Ytbejjindkcjecaa
