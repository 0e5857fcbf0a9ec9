/- Contract: Lex. -/
import Derived.Test.YtgckigolbajhoaaDoorP
namespace Go.Proofs.YtgckigolbajhoaaDoor
open Go.RowKit Go
set_option linter.unusedVariables false
set_option linter.unusedSimpArgs false
/-- Lex's three results -/
def lexl (s : List UInt8) : List Tk := if 65536 < s.length then [] else match L9.lx s 0 with | .ok l => l | .error _ => []
def lexa (s : List UInt8) : Nat := if 65536 < s.length then 0 else match L9.lx s 0 with | .ok _ => 0 | .error a => a
def lexe (s : List UInt8) : Int := if 65536 < s.length then 2 else match L9.lx s 0 with | .ok _ => 0 | .error _ => 90
/-- the tokens that were found ahead of the rest -/
def pre (l : List Tk) : Except Nat (List Tk) → Except Nat (List Tk)
  | .ok m => .ok (l ++ m)
  | .error a => .error a
theorem pre_put (l : List Tk) (t : Tk) (x : Except Nat (List Tk)) : pre l (L9.put t x) = pre (l ++ [t]) x := by
  cases x <;> simp [pre, L9.put]
/-- the place that the reader has come to -/
def plc (rb : Nat) (w : World) : Nat := match w.cell? ⟨rb, 1, none⟩ with | some (.int _ n) => n.toNat | _ => 0
theorem plc_of {W : World} {rb base a : Nat} {s : ByteArray} {v : Value} {l : List Tk} (h : Rdr W rb base s a v l) : plc rb W = a := by
  unfold plc; rw [h.blk.cell 1 _ rfl]; simp
set_option maxRecDepth 100000 in
set_option maxHeartbeats 8000000 in
theorem Lex_long (s : ByteArray) (w : World) (hs : 65536 < s.size) :
    Calls Tryd.prog 11 #[.string s] w fun e w' => e = .returned (.tuple #[.slice none 0 0, .int .i64 0, .int .i64 2]) ∧ Below w.heap.size w w' := by
  have h0 : (65536 : Int) < s.size := by omega
  have HB := hid ((((Below.refl w.heap.size w).alloc (Nat.le_refl _) (.cells #[.slice none 0 0] 23)).alloc (by simp) (.cells #[.int .i64 0] 3)).alloc (by simp; omega) (.cells #[.int .i64 2] 24))
  clear hs
  go_enter_defers Tryd.func11, Tryd.ntmps11
  go_wp2
  simp [bodyPostD, Leaves, settle, results, Tryd.results11, go_sem]
  exact HB.out
set_option maxRecDepth 100000 in
set_option maxHeartbeats 8000000 in
theorem Lex_short (s : ByteArray) (w : World) (hk : Konst w) (hs : s.size ≤ 65536) :
    Calls Tryd.prog 11 #[.string s] w fun e w' => (∃ v, e = .returned (.tuple #[v, .int .i64 (lexa (lst s)), .int .i64 (lexe (lst s))]) ∧ KS w' v (lexl (lst s))) ∧ Below w.heap.size w w' := by
  have hmf : ∀ (fn : Fn) (first cap : Array Value) (w : World), (Instr.makeFunc fn first cap).run Tryd.prog w = .ok (.func fn first cap) w := fun _ _ _ _ => rfl
  have h0 : ¬ (65536 : Int) < s.size := by omega
  go_enter_defers Tryd.func11, Tryd.ntmps11
  go_wp2_with fail
  refine (scanners_any _).mono ?_
  rintro e w1 ⟨rfl, hb⟩
  obtain ⟨Z0, hZ0⟩ : ∃ Z0, Z0 = ((w.alloc (.cells #[.slice none 0 0] 23)).alloc (.cells #[.int .i64 0] 3)).alloc (.cells #[.int .i64 0] 24) := ⟨_, rfl⟩
  rw [← hZ0] at hb
  have hb0 : Below w.heap.size w Z0 := by rw [hZ0]; exact (((Below.refl w.heap.size w).alloc (Nat.le_refl _) _).alloc (by simp) _).alloc (by simp; omega) _
  have p0 : Blk Z0 w.heap.size 23 [.slice none 0 0] := by rw [hZ0]; exact ((Blk.new w 23 [.slice none 0 0]).alloc _).alloc _
  have q0 : Blk Z0 (w.heap.size + 1) 3 [.int .i64 0] := by have h := (Blk.new (w.alloc (.cells #[.slice none 0 0] 23)) 3 [.int .i64 0]).alloc (.cells #[.int .i64 0] 24); rw [World.size_alloc] at h; rw [hZ0]; exact h
  have r0 : Blk Z0 (w.heap.size + 2) 24 [.int .i64 0] := by have h := Blk.new ((w.alloc (.cells #[.slice none 0 0] 23)).alloc (.cells #[.int .i64 0] 3)) 24 [.int .i64 0]; rw [World.size_alloc, World.size_alloc] at h; rw [hZ0]; exact h
  have p1 := p0.below hb p0.lt
  have q1 := q0.below hb q0.lt
  have r1 := r0.below hb r0.lt
  have hb1 := below_t hb0 (hb.mono (Nat.le_refl _))
  have hs1 := hb.size
  have hs0 : Z0.heap.size = w.heap.size + 3 := by rw [hZ0]; simp
  go_wp2_with fail
  obtain ⟨Z, hZ⟩ : ∃ Z, Z = (w1.alloc (.cells #[.string s, .int .i64 0, .slice none 0 0] 45)).alloc (.cells funs.toArray 47) := ⟨_, rfl⟩
  have bR : Blk Z w1.heap.size 45 [.string s, .int .i64 0, .slice none 0 0] := by rw [hZ]; exact (Blk.new w1 45 _).alloc _
  have bF : Blk Z (w1.heap.size + 1) 47 funs := by have h := Blk.new (w1.alloc (.cells #[.string s, .int .i64 0, .slice none 0 0] 45)) 47 funs; rw [World.size_alloc] at h; rw [hZ]; exact h
  have hsz : Z.heap.size = w1.heap.size + 2 := by rw [hZ]; simp
  have hbZ : Below w.heap.size w Z := by rw [hZ]; exact (hb1.alloc hb1.size _).alloc (by have := hb1.size; simp; omega) _
  have pZ : Blk Z w.heap.size 23 [.slice none 0 0] := by rw [hZ]; exact (p1.alloc _).alloc _
  have qZ : Blk Z (w.heap.size + 1) 3 [.int .i64 0] := by rw [hZ]; exact (q1.alloc _).alloc _
  have rZ : Blk Z (w.heap.size + 2) 24 [.int .i64 0] := by rw [hZ]; exact (r1.alloc _).alloc _
  have hRd : Rdr Z w1.heap.size (w1.heap.size + 2) s 0 (.slice none 0 0) [] := ⟨bR, go_nil _ _, by omega, by omega⟩
  have HR := hid (show Z.heap.size = w1.heap.size + 2 from hsz)
  rw [show ((w1.alloc (.cells #[.string s, .int .i64 0, .slice none 0 0] 45)).alloc (.cells #[.func (.func 39) #[] #[], .func (.func 40) #[] #[], .func (.func 41) #[] #[], .func (.func 42) #[] #[], .func (.func 39) #[] #[], .func (.func 43) #[] #[], .func (.func 44) #[] #[]] 47)) = Z from hZ.symm]
  have hkZ := hk.up hbZ
  have hn3 := hk.three
  obtain ⟨n0, hn0⟩ : ∃ n, n = w.heap.size := ⟨_, rfl⟩
  obtain ⟨rb, hrb⟩ : ∃ n, n = w1.heap.size := ⟨_, rfl⟩
  have hlt0 : n0 + 3 ≤ rb := by omega
  rw [← hrb] at bR bF hRd ⊢
  rw [← hn0] at pZ qZ rZ ⊢
  rw [show n0 + 2 = n0 + 1 + 1 from rfl] at rZ
  obtain ⟨base, hbase⟩ : ∃ n, n = rb + 2 := ⟨_, rfl⟩
  rw [← hbase] at hRd
  have HLT := hid (show n0 + 3 ≤ rb ∧ rb + 2 = base ∧ base ≤ Z.heap.size ∧ w.heap.size = n0 from ⟨hlt0, hbase.symm, by omega, hn0.symm⟩)
  have HK := hid hkZ; have HP := hid pZ; have HQ := hid qZ; have HRZ := hid rZ; have HF := hid bF; have HRD := hid hRd; have HBZ := hid hbZ; have HS := hid hs
  have HN3 := hid (show 3 ≤ n0 by have := HLT.out; omega)
  clear hn3 hkZ pZ qZ rZ bF hRd hbZ hbase hlt0 hrb hn0 bR hsz hZ hs0 hs1 hb1 p1 q1 r1 p0 q0 r0 hb0 hZ0 hb hs hk h0 HR
  go_loopw [15] (fun _ wr => ∃ (a : Nat) (v : Value) (l : List Tk), Rdr wr rb base s a v l ∧ Kpb base rb Z wr ∧ a ≤ s.size ∧ L9.lx (lst s) 0 = pre l (L9.lx ((lst s).drop a) a) ∧ l.length ≤ a) (fun _ wr => s.size - plc rb wr)
  case atStart => exact ⟨0, _, [], HRD.out, Kpb.refl _ _ _, by omega, by rw [List.drop_zero]; cases L9.lx (lst s) 0 <;> rfl, by simp⟩
  case round =>
    obtain ⟨a, v, l, hr, hkp, ha, hlx, hll⟩ := hrel
    have hpl := hid (plc_of hr)
    have HKP := hid hkp; have HLX := hid hlx; have HR := hid hr
    have c1 := hr.blk.cell 1 _ rfl
    have hsz : (lst s).length = s.size := rfl
    have hbw : Below n0 Z wr := hkp.below (by have := HLT.out; omega) (by have := HLT.out; omega)
    by_cases hlt : a < s.size
    · obtain ⟨c, hc⟩ : ∃ c, (lst s)[a]? = some c := ⟨(lst s)[a], List.getElem?_eq_getElem (by omega)⟩
      have hkw : Konst wr := by
        exact HK.out.upn hbw HN3.out
      obtain ⟨F, j, st, hkl, hj7, hfun, hen, hcall, hgood⟩ := scan_any wr hr hkw (by have := HS.out; omega) hc (by have := HS.out; omega)
      have HCA := hid hcall; have HG := hid hgood
      have hcl : Calls Tryd.prog 25 #[.int .u8 c.toNat] wr fun e w' => e = .returned (.int .u8 (kl c)) ∧ wr = w' := classOf_any c.toNat wr hkw (u8_lt c)
      rw [hkl] at hcl
      have HCL := hid hcl
      have hch := hid (show c = s[a] by
        have := List.getElem?_eq_some_iff.1 hc
        exact this.2.symm)
      have cf := (hkp.blk HF.out (by have := HLT.out; omega) (by omega)).cell j _ hfun
      clear hcall hgood hcl hc hkl hfun hr hkp hlx hkw
      go_wp2_with fail
      rw [← hch.out]
      refine HCL.out.mono ?_
      rintro e w2 ⟨rfl, rfl⟩
      go_wp2_with fail
      refine HCA.out.mono ?_
      rintro e wn hsc
      cases st with
      | skip n =>
        obtain ⟨hk1, rfl, u, hr1⟩ := hsc
        obtain ⟨g1, g2, g3⟩ := HG.out
        have HREL := hid (show ∃ (a : Nat) (v : Value) (l : List Tk), Rdr wn rb base s a v l ∧ Kpb base rb Z wn ∧ a ≤ s.size ∧ L9.lx (lst s) 0 = pre l (L9.lx ((lst s).drop a) a) ∧ l.length ≤ a from
          ⟨a + n, u, l, hr1, HKP.out.trans hk1, by omega, by rw [← g3]; exact HLX.out, by omega⟩)
        have HME := hid (show s.size - plc rb wn < s.size - plc rb wr by rw [plc_of hr1, hpl.out]; omega)
        clear hk1 hr1 g3 cf c1
        go_wp2
        go_roundw
        case rel => exact HREL.out
        case measure => exact HME.out
      | tok k t vv n =>
        obtain ⟨hk1, rfl, u, hr1⟩ := hsc
        obtain ⟨g1, g2, g3⟩ := HG.out
        have HREL := hid (show ∃ (a : Nat) (v : Value) (l : List Tk), Rdr wn rb base s a v l ∧ Kpb base rb Z wn ∧ a ≤ s.size ∧ L9.lx (lst s) 0 = pre l (L9.lx ((lst s).drop a) a) ∧ l.length ≤ a from
          ⟨a + n, u, _, hr1, HKP.out.trans hk1, by omega, by rw [← pre_put, ← g3]; exact HLX.out, by simp; omega⟩)
        have HME := hid (show s.size - plc rb wn < s.size - plc rb wr by rw [plc_of hr1, hpl.out]; omega)
        clear hk1 hr1 g3 cf c1
        go_wp2
        go_roundw
        case rel => exact HREL.out
        case measure => exact HME.out
      | bad =>
        obtain ⟨hk1, rfl⟩ := hsc
        have hkz := HKP.out.trans hk1
        have l1 := HLT.out
        have b0 := hkz.blk HP.out (by omega) (by omega)
        have b1 := hkz.blk HQ.out (by omega) (by omega)
        have b2 := hkz.blk HRZ.out (by omega) (by omega)
        have hlx2 : L9.lx (lst s) 0 = .error a := by
          have h1 := HLX.out
          rw [show L9.lx ((lst s).drop a) a = .error a from HG.out] at h1
          exact h1
        have hle : ¬ 65536 < (lst s).length := by have := HS.out; omega
        have hv1 : lexa (lst s) = a := by unfold lexa; rw [if_neg hle, hlx2]
        have hv2 : lexe (lst s) = 90 := by unfold lexe; rw [if_neg hle, hlx2]
        have hv3 : lexl (lst s) = [] := by unfold lexl; rw [if_neg hle, hlx2]
        have hbn : Below w.heap.size w wn := HBZ.out.trans ((hkz.below (n := w.heap.size) (by omega) (by omega)))
        have HV1 := hid hv1; have HV2 := hid hv2; have HV3 := hid hv3
        show bodyPostD Tryd.prog Tryd.f11 _ (Exit.panic _) _ _
        refine leaves_cons (f := 23) (args := #[.pointer (some ⟨n0, 0, none⟩), .pointer (some ⟨n0 + 1, 0, none⟩), .pointer (some ⟨n0 + 1 + 1, 0, none⟩)]) (by simp) (by simp [go_sem]) ?_
        refine (catch_pan n0 (n0 + 1) (n0 + 1 + 1) _ _ _ (.int .i64 0) wn b0 b1 b2 (by omega) (by omega) (by omega) a).mono ?_
        rintro e u' w9 ⟨rfl, rfl, hw9⟩
        have e0 : Blk w9 n0 23 [.slice none 0 0] := by rw [hw9]; exact ((b0.set 0 _).other (by omega) _).other (by omega) _
        have e1 : Blk w9 (n0 + 1) 3 [.int .i64 a] := by rw [hw9]; exact (((b1.other (by omega) _).set 0 _)).other (by omega) _
        have e2 : Blk w9 (n0 + 1 + 1) 24 [.int .i64 90] := by rw [hw9]; exact (((b2.other (by omega) _).other (by omega) _)).set 0 _
        have hb9 : Below w.heap.size w w9 := by rw [hw9]; exact ((hbn.setCell (by show w.heap.size ≤ n0; omega) _).setCell (by show w.heap.size ≤ n0 + 1; omega) _).setCell (by show w.heap.size ≤ n0 + 1 + 1; omega) _
        have k0 := e0.cell 0 _ rfl
        have k1 := e1.cell 0 _ rfl
        have k2 := e2.cell 0 _ rfl
        have HB9 := hid hb9
        clear hw9 e0 e1 e2 hb9 hbn hv1 hv2 hv3 hlx2 hle b0 b1 b2 l1 hkz hk1 cf c1
        simp [Leaves, settle, results, Tryd.results11, go_sem, k0, k1, k2]
        exact ⟨⟨_, ⟨rfl, by rw [HV1.out], HV2.out.symm⟩, by rw [HV3.out]; exact .inl ⟨rfl, rfl⟩⟩, HB9.out⟩
    · obtain rfl : a = s.size := by omega
      rw [List.drop_eq_nil_of_le (by omega), L9.lx_nil] at hlx
      have hkz := hkp
      have l1 := HLT.out
      have b0 := hkz.blk HP.out (by omega) (by omega)
      have b1 := hkz.blk HQ.out (by omega) (by omega)
      have b2 := hkz.blk HRZ.out (by omega) (by omega)
      have hlx2 : L9.lx (lst s) 0 = .ok l := by rw [hlx]; simp [pre]
      have hle : ¬ 65536 < (lst s).length := by have := HS.out; omega
      have hv1 : lexa (lst s) = 0 := by unfold lexa; rw [if_neg hle, hlx2]
      have hv2 : lexe (lst s) = 0 := by unfold lexe; rw [if_neg hle, hlx2]
      have hv3 : lexl (lst s) = l := by unfold lexl; rw [if_neg hle, hlx2]
      have hbn : Below w.heap.size w wr := HBZ.out.trans ((hkz.below (n := w.heap.size) (by omega) (by omega)))
      have hown := hr.own
      have hg := hown.gs
      obtain ⟨pv, cv, rfl⟩ := hg.form
      have c2 := hr.blk.cell 2 _ rfl
      have HV1 := hid hv1; have HV2 := hid hv2; have HV3 := hid hv3; have HB0 := hid b0; have HB1 := hid b1; have HB2 := hid b2; have HOWN := hid hown; have HBN := hid hbn; have HRR := hid hr
      have k0 := b0.cell 0 _ rfl
      have k1 := b1.cell 0 _ rfl
      have k2 := b2.cell 0 _ rfl
      have f0 := b0.frozen 0
      have f1 := b1.frozen 0
      have f2 := b2.frozen 0
      clear hg hown hbn hv1 hv2 hv3 hlx2 hle b0 b1 b2 l1 hkz hkp hlx hr
      go_wp2
      obtain ⟨w9, hw9⟩ : ∃ w9, w9 = (((wr.setCell ⟨n0, 0, none⟩ (.slice pv l.length cv)).setCell ⟨n0 + 1, 0, none⟩ (.int .i64 0)).setCell ⟨n0 + 1 + 1, 0, none⟩ (.int .i64 0)) := ⟨_, rfl⟩
      rw [← hw9]
      have l1 := HLT.out
      have e0 : Blk w9 n0 23 [.slice pv l.length cv] := by rw [hw9]; exact ((HB0.out.set 0 _).other (by omega) _).other (by omega) _
      have e1 : Blk w9 (n0 + 1) 3 [.int .i64 0] := by rw [hw9]; exact (((HB1.out.other (by omega) _).set 0 _)).other (by omega) _
      have e2 : Blk w9 (n0 + 1 + 1) 24 [.int .i64 0] := by rw [hw9]; exact (((HB2.out.other (by omega) _).other (by omega) _)).set 0 _
      have hb9 : Below w.heap.size w w9 := by rw [hw9]; exact ((HBN.out.setCell (by show w.heap.size ≤ n0; omega) _).setCell (by show w.heap.size ≤ n0 + 1; omega) _).setCell (by show w.heap.size ≤ n0 + 1 + 1; omega) _
      have ho9 : KO w9 base (.slice pv l.length cv) l := by
        rw [hw9]
        have hne : ∀ B, B < base → ∀ j, (Value.slice pv l.length cv).ownBlock = some j → some B ≠ some j := fun B hB j hj e => by
          have := (HOWN.out.lt j hj).1; cases e; omega
        exact ((HOWN.out.kept (grown_set wr n0 0 _) (hne n0 (by omega))).kept (grown_set _ (n0 + 1) 0 _) (hne (n0 + 1) (by omega))).kept (grown_set _ (n0 + 1 + 1) 0 _) (hne (n0 + 1 + 1) (by omega))
      have k0' := e0.cell 0 _ rfl
      have k1' := e1.cell 0 _ rfl
      have k2' := e2.cell 0 _ rfl
      have HB9 := hid hb9; have HO9 := hid ho9
      clear hw9 e0 e1 e2 hb9 ho9 l1 k0 k1 k2 f0 f1 f2 c1 c2
      refine leaves_cons (f := 23) (args := #[.pointer (some ⟨n0, 0, none⟩), .pointer (some ⟨n0 + 1, 0, none⟩), .pointer (some ⟨n0 + 1 + 1, 0, none⟩)]) (by simp) (by simp [go_sem]) ?_
      refine (catch_idle _ _ _ w9).mono ?_
      rintro e u' w8 ⟨rfl, rfl, rfl⟩
      simp [Leaves, settle, results, Tryd.results11, go_sem, k0', k1', k2']
      exact ⟨⟨_, ⟨rfl, by rw [HV1.out]; rfl, HV2.out.symm⟩, by rw [HV3.out]; exact HO9.out.gs⟩, HB9.out⟩
theorem Lex_any (s : ByteArray) (w : World) (hk : Konst w) :
    Calls Tryd.prog 11 #[.string s] w fun e w' => (∃ v, e = .returned (.tuple #[v, .int .i64 (lexa (lst s)), .int .i64 (lexe (lst s))]) ∧ KS w' v (lexl (lst s))) ∧ Below w.heap.size w w' := by
  have hsz : (lst s).length = s.size := rfl
  by_cases h : s.size ≤ 65536
  · exact Lex_short s w hk h
  · refine (Lex_long s w (by omega)).mono ?_
    rintro e w' ⟨rfl, hb⟩
    have hle : 65536 < (lst s).length := by omega
    refine ⟨⟨_, ?_, .inl ⟨rfl, if_pos hle⟩⟩, hb⟩
    rw [show lexa (lst s) = 0 from if_pos hle, show lexe (lst s) = 2 from if_pos hle]; rfl
end Go.Proofs.YtgckigolbajhoaaDoor
