/- Contracts: Name; the classes as predicates. -/
import Derived.Test.YtgckigolbajhoaaDoorBk
namespace Go.Proofs.YtgckigolbajhoaaDoor
open Go.RowKit Go
set_option linter.unusedVariables false
set_option linter.unusedSimpArgs false
theorem byte_all {M : UInt8 → Prop} (h : ∀ n : Fin 256, M (UInt8.ofNat n.1)) (c : UInt8) : M c := by
  have := h ⟨c.toNat, u8_lt c⟩
  simpa using this
theorem inC_P (c : UInt8) : inC [2, 3, 4] c = L9.isP c := byte_all (M := fun c => inC [2, 3, 4] c = L9.isP c) (by decide +kernel) c
theorem inC_D (c : UInt8) : inC [3] c = L9.isD c := byte_all (M := fun c => inC [3] c = L9.isD c) (by decide +kernel) c
theorem inC_W (c : UInt8) : inC [1] c = L9.isW c := byte_all (M := fun c => inC [1] c = L9.isW c) (by decide +kernel) c
theorem inC_S (c : UInt8) : inC [5, 6] c = L9.isS c := byte_all (M := fun c => inC [5, 6] c = L9.isS c) (by decide +kernel) c
theorem kl_facts (c : UInt8) : (kl c = 0 ∨ kl c = 4) ∧ (L9.isW c = false ∧ c.toNat ≠ 47 ∧ L9.isL c = false ∧ L9.isD c = false ∧ L9.isS c = false) ∨ kl c = 1 ∧ L9.isW c = true ∨ kl c = 2 ∧ L9.isW c = false ∧ L9.isL c = true ∧ c.toNat ≠ 47 ∨
    kl c = 3 ∧ L9.isW c = false ∧ L9.isL c = false ∧ L9.isD c = true ∧ c.toNat ≠ 47 ∨ kl c = 5 ∧ L9.isW c = false ∧ L9.isL c = false ∧ L9.isD c = false ∧ L9.isS c = true ∧ c.toNat ≠ 47 ∨
    kl c = 6 ∧ L9.isW c = false ∧ L9.isL c = false ∧ L9.isD c = false ∧ L9.isS c = true ∧ c.toNat = 47 :=
  byte_all (M := fun c => (kl c = 0 ∨ kl c = 4) ∧ (L9.isW c = false ∧ c.toNat ≠ 47 ∧ L9.isL c = false ∧ L9.isD c = false ∧ L9.isS c = false) ∨ kl c = 1 ∧ L9.isW c = true ∨ kl c = 2 ∧ L9.isW c = false ∧ L9.isL c = true ∧ c.toNat ≠ 47 ∨
    kl c = 3 ∧ L9.isW c = false ∧ L9.isL c = false ∧ L9.isD c = true ∧ c.toNat ≠ 47 ∨ kl c = 5 ∧ L9.isW c = false ∧ L9.isL c = false ∧ L9.isD c = false ∧ L9.isS c = true ∧ c.toNat ≠ 47 ∨
    kl c = 6 ∧ L9.isW c = false ∧ L9.isL c = false ∧ L9.isD c = false ∧ L9.isS c = true ∧ c.toNat = 47) (by decide +kernel) c
theorem kl_L (c : UInt8) : (kl c == 2) = L9.isL c := byte_all (M := fun c => (kl c == 2) = L9.isL c) (by decide +kernel) c
theorem tw_eq (p q : UInt8 → Bool) (h : ∀ c, p c = q c) (l : List UInt8) : l.takeWhile p = l.takeWhile q := by rw [show p = q from funext h]
theorem tw_whole (p : UInt8 → Bool) (l : List UInt8) : (l.takeWhile p).length = l.length ↔ l.all p = true := by
  induction l with
  | nil => simp
  | cons c r ih =>
    cases h : p c
    · simp [h]
    · rw [L9.tw_cons h, List.length_cons, List.length_cons, List.all_cons, h, Bool.true_and, ← ih]; omega
end Go.Proofs.YtgckigolbajhoaaDoor
