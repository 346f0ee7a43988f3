/-
  Readers: bytes that are passed over and told, for every Reader in every world.
-/
import Derived.Test.YtboncdlihgpepaaRd
namespace Go.Proofs.Ytboncdlihgpepaa
open Go.RowKit Go.BigFrame
theorem OwnB.weaken {base base' n : Nat} {e : TypeId} {v : Value} {g : Nat → Value} {w : World} (h : OwnB base e v n g w) (hb : base' ≤ base) : OwnB base' e v n g w :=
  ⟨h.1, h.2.imp id (fun ⟨g, cap, cur, a, b, c⟩ => ⟨g, cap, cur, a, Nat.le_trans hb b, c⟩)⟩
theorem OwnB.off {base n c : Nat} {e : TypeId} {v : Value} {g : Nat → Value} {w : World} (h : OwnB base e v n g w) (hc : c < base) : ∀ a m cp, v = .slice (some a) m cp → a.block ≠ c := fun a m cp hh => by
  have := (h.lt a.block (by rw [hh]; rfl)).1
  omega
/-- a value does not lie in block c -/
def OffB (v : Value) (c : Nat) : Prop := ∀ a n cp, v = .slice (some a) n cp → a.block ≠ c
/-- a value lies in blocks lo to hi - 1 -/
def InB (v : Value) (lo hi : Nat) : Prop := ∀ a n cp, v = .slice (some a) n cp → lo ≤ a.block ∧ a.block < hi
theorem InB.off {v : Value} {lo hi : Nat} (h : InB v lo hi) : OffB v hi := fun a n cp hh => Nat.ne_of_lt (h a n cp hh).2
/-- a Reader at c: l bytes are left, told by f, which lie from block lo on; was something refused? -/
def Rd (lo c l : Nat) (f : Nat → BitVec 8) (bad : Bool) (w : World) : Prop := ∃ v, RdAt c v bad w ∧ BV v l f w ∧ InB v lo c
theorem BV.but {v : Value} {l c : Nat} {b : Nat → BitVec 8} {w X : World} (h : BV v l b w) (k : But c w X) (ho : OffB v c) : BV v l b X := by
  rcases h with h | ⟨a, cap, h1, h2, h3⟩
  · exact .inl h
  · exact .inr ⟨a, cap, h1, h2, h3.but k (ho _ _ _ h1)⟩
theorem Rd.ext {lo c l : Nat} {f : Nat → BitVec 8} {bad : Bool} {w X : World} (h : Rd lo c l f bad w) (k : Ext w X) : Rd lo c l f bad X := by
  obtain ⟨v, h1, h2, h3⟩ := h
  exact ⟨v, RowAt.carry h1 k, h2.ext k, h3⟩
theorem Rd.but {lo c d l : Nat} {f : Nat → BitVec 8} {bad : Bool} {w X : World} (h : Rd lo c l f bad w) (k : But d w X) (hd : d < lo ∨ c < d) (hlo : lo ≤ c) : Rd lo c l f bad X := by
  obtain ⟨v, h1, h2, h3⟩ := h
  exact ⟨v, RowAt.but h1 k (by omega), h2.but k (fun a n cp hh => by have := h3 a n cp hh; omega), h3⟩
theorem Rd.lt {lo c l : Nat} {f : Nat → BitVec 8} {bad : Bool} {w : World} (h : Rd lo c l f bad w) : c < w.heap.size := by
  obtain ⟨v, h1, _⟩ := h
  exact h1.2.2
theorem RowAt.belowB {b n B : Nat} {g : Nat → Value} {w X : World} (h : RowAt b n g w) (hb : b < B) (k : Below B w X) : RowAt b n g X :=
  ⟨fun j hj => (k.cell (p := ⟨b, j, none⟩) hb).trans (h.1 j hj), fun j hj => (k.frozen (p := ⟨b, j, none⟩) hb).trans (h.2.1 j hj), Nat.lt_of_lt_of_le h.2.2 k.size⟩
theorem Rd.below {lo c B l : Nat} {f : Nat → BitVec 8} {bad : Bool} {w X : World} (h : Rd lo c l f bad w) (hc : c < B) (k : Below B w X) : Rd lo c l f bad X := by
  obtain ⟨v, h1, h2, h3⟩ := h
  refine ⟨v, RowAt.belowB h1 hc k, ?_, h3⟩
  rcases h2 with h2 | ⟨a, cap, q1, q2, q3⟩
  · exact .inl h2
  · exact .inr ⟨a, cap, q1, q2, q3.below (by have := (h3 _ _ _ q1).2; omega) k⟩
def shF (f : Nat → BitVec 8) (n : Nat) (j : Nat) : BitVec 8 := f (n + j)
set_option maxRecDepth 20000 in
theorem pass_any (lo c l n : Nat) (f : Nat → BitVec 8) (bad : Bool) (w : World) (h : Rd lo c l f bad w) (hn : n ≤ l) :
    Calls Try.prog 45 #[.pointer (some ⟨c, 0, none⟩), .int .i64 n] w fun e w' => ∃ v, e = .returned v ∧ BV v n f w' ∧ OffB v c ∧ Rd lo c (l - n) (shF f n) bad w' ∧ But c w w' := by
  obtain ⟨v, h1, h2, h3⟩ := h
  rcases h2 with ⟨rfl, rfl⟩ | ⟨a, cap, rfl, h4, h5⟩
  · obtain rfl : n = 0 := by omega
    have e0 := h1.bytes
    have g0 := h1.2.1 0 (by decide)
    have hs := hideit (h1.setBytes (.slice none 0 0))
    clear h1 h3
    go_enter Try.func45, Try.ntmps45
    go_wp2
    go_ret
    exact ⟨_, rfl, .inl ⟨rfl, rfl⟩, (fun a n cp hh => by cases hh), ⟨_, hs.out, .inl ⟨rfl, rfl⟩, (fun a n cp hh => by cases hh)⟩, but_setCell _ _ _ _⟩
  · by_cases hct : cap = n
    · have e0 := h1.bytes
      have g0 := h1.2.1 0 (by decide)
      have n0 : (0 : Int) ≤ (n : Int) := by omega
      have n1 : (n : Int) ≤ (l : Int) := by omega
      have n2 : (n : Int) ≤ (cap : Int) := by omega
      have hs := hideit (h1.setBytes (.slice (some a) (l - n) 0))
      have hi := h3 _ _ _ rfl
      have hc : a.block ≠ c := Nat.ne_of_lt hi.2
      have hb := hideit (but_setCell w c 0 (.slice (some a) (l - n) 0))
      have h6 := hideit (h5.but hb.out hc)
      have H4 := hideit h4
      clear h1 h3 h5 h4
      go_enter Try.func45, Try.ntmps45
      go_wp2
      go_ret
      refine ⟨_, rfl, .inr ⟨a, _, rfl, by omega, ⟨fun j hj => h6.out.1 j (by omega), h6.out.2⟩⟩, (fun x y z hh => by injection hh with hh; injection hh with hh; rw [← hh]; exact hc), ⟨_, hs.out, .inr ⟨a, 0, rfl, by have := H4.out; omega, ⟨fun j hj => by have := H4.out; omega, h6.out.2⟩⟩, (fun x y z hh => by injection hh with hh; injection hh with hh; rw [← hh]; exact hi)⟩, hb.out⟩
    · have e0 := h1.bytes
      have g0 := h1.2.1 0 (by decide)
      have n0 : (0 : Int) ≤ (n : Int) := by omega
      have n1 : (n : Int) ≤ (l : Int) := by omega
      have n2 : (n : Int) ≤ (cap : Int) := by omega
      have hs := hideit (h1.setBytes (.slice (some (a.add n)) (l - n) (cap - n)))
      have hi := h3 _ _ _ rfl
      have hc : a.block ≠ c := Nat.ne_of_lt hi.2
      have hb := hideit (but_setCell w c 0 (.slice (some (a.add n)) (l - n) (cap - n)))
      have h6 := hideit (h5.but hb.out hc)
      have H4 := hideit h4
      clear h1 h3 h5 h4
      go_enter Try.func45, Try.ntmps45
      go_wp2
      go_ret
      refine ⟨_, rfl, .inr ⟨a, _, rfl, by omega, ⟨fun j hj => h6.out.1 j (by omega), h6.out.2⟩⟩, (fun x y z hh => by injection hh with hh; injection hh with hh; rw [← hh]; exact hc), ⟨_, hs.out, .inr ⟨a.add n, cap - n, rfl, by have := H4.out; omega, ⟨fun j hj => by rw [add_add]; exact h6.out.1 (n + j) (by omega), by rw [add_block]; exact h6.out.2⟩⟩, (fun x y z hh => by injection hh with hh; injection hh with hh; rw [← hh, add_block]; exact hi)⟩, hb.out⟩
theorem rleft_any (lo c l : Nat) (f : Nat → BitVec 8) (bad : Bool) (w : World) (h : Rd lo c l f bad w) :
    Calls Try.prog 18 #[.pointer (some ⟨c, 0, none⟩)] w fun e w' => e = .returned (.int .i64 l) ∧ w' = w := by
  obtain ⟨v, h1, h2, h3⟩ := h
  obtain ⟨oa, cp, rfl⟩ := h2.form
  have e0 := h1.bytes
  clear h1 h2 h3
  go_enter Try.func18, Try.ntmps18
  go_wp2
  go_ret
  exact ⟨rfl, rfl⟩
theorem rleft_nil (w : World) : Calls Try.prog 18 #[.pointer none] w fun e w' => e = .returned (.int .i64 0) ∧ w' = w := by
  go_enter Try.func18, Try.ntmps18
  go_wp2
  go_ret
  exact ⟨rfl, rfl⟩
theorem rdone_nil (w : World) : Calls Try.prog 19 #[.pointer none] w fun e w' => e = .returned (.int .i64 6) ∧ w' = w := by
  go_enter Try.func19, Try.ntmps19
  go_wp2
  go_ret
  exact ⟨rfl, rfl⟩
theorem rbytes_nil (n : Value) (w : World) : Calls Try.prog 14 #[.pointer none, n] w fun e w' => e = .returned (.slice none 0 0) ∧ w' = w := by
  go_enter Try.func14, Try.ntmps14
  go_wp2
  go_ret
  exact ⟨rfl, rfl⟩
theorem ruint_nil (n : Value) (w : World) : Calls Try.prog 12 #[.pointer none, n] w fun e w' => e = .returned (.int .u64 0) ∧ w' = w := by
  go_enter Try.func12, Try.ntmps12
  go_wp2
  go_ret
  exact ⟨rfl, rfl⟩
theorem zeros_nil (n : Value) (w : World) : Calls Try.prog 16 #[.pointer none, n] w fun e w' => e = .returned (.tuple #[]) ∧ w' = w := by
  go_enter Try.func16, Try.ntmps16
  go_wp2
  exact bodyPost_ret (v := .tuple #[]) (by simp [results, Try.results16]) rfl ⟨rfl, rfl⟩
/-- are so many bytes zeros? -/
def zB (f : Nat → BitVec 8) : Nat → Bool
  | 0 => true
  | n + 1 => zB f n && f n == 0#8
theorem zB_false {f : Nat → BitVec 8} {i : Nat} (h : ¬ f i = 0#8) : ∀ l, i < l → zB f l = false
  | 0, hl => by omega
  | l + 1, hl => by
    unfold zB
    by_cases e : i = l
    · subst e; simp [h]
    · rw [zB_false h l (by omega)]; rfl
theorem zB_spec {f : Nat → BitVec 8} : ∀ l, zB f l = true ↔ ∀ i, i < l → f i = 0#8
  | 0 => ⟨fun _ i hi => by omega, fun _ => rfl⟩
  | l + 1 => by
    unfold zB
    rw [Bool.and_eq_true, zB_spec l, beq_iff_eq]
    refine ⟨fun h i hi => ?_, fun h => ⟨fun i hi => h i (by omega), h l (by omega)⟩⟩
    by_cases e : i = l
    · subst e; exact h.2
    · exact h.1 i (by omega)
theorem zB_congr {f g : Nat → BitVec 8} : ∀ l, (∀ j, j < l → f j = g j) → zB f l = zB g l
  | 0, _ => rfl
  | l + 1, h => by
    unfold zB
    rw [zB_congr l (fun j hj => h j (by omega)), h l (by omega)]
theorem ne0 {x : BitVec 8} : ((x.toNat : Int) = 0) ↔ x = 0#8 := by
  rw [← BitVec.toNat_inj]; simp
set_option maxRecDepth 20000 in
set_option maxHeartbeats 1000000 in
theorem zeros_any (v : Value) (l : Nat) (f : Nat → BitVec 8) (w : World) (h : BV v l f w) (hl : l ≤ 140737488355328) :
    Calls Try.prog 47 #[v] w fun e w' => e = .returned (.bool (zB f l)) ∧ w' = w := by
  obtain ⟨oa, cp, rfl⟩ := h.form
  have hcell : Hid (∀ j, j < l → ∃ ad, oa = some ad ∧ w.cell? (ad.add j) = some (.int .u8 ((f j).toNat : Int))) := by
    intro j hj
    rcases h with ⟨_, h0⟩ | ⟨a, cap, h1, h2, h3⟩
    · omega
    · injection h1 with h1 _ _
      exact ⟨a, h1, h3.1 j hj⟩
  clear h
  go_enter Try.func47, Try.ntmps47
  go_wp2
  go_loop [7] (fun i => ∃ k : Nat, k ≤ l ∧ i = .int .i64 k ∧ zB f k = true) (fun i => l - (intOf i).toNat)
  case atStart => exact ⟨0, Nat.zero_le _, rfl, rfl⟩
  case round =>
    obtain ⟨k, hk, rfl, hz⟩ := hrel
    replace hz := hideit hz
    by_cases hlt : k < l
    · obtain ⟨ad, rfl, hc⟩ := hcell.out k hlt
      have k0 : (0 : Int) ≤ (k : Int) := by omega
      have k1 : (k : Int) < (l : Int) := by omega
      by_cases hx : f k = 0#8
      · have hx2 : ((f k).toNat : Int) = 0 := ne0.2 hx
        have hx3 : zB f (k + 1) = true := by unfold zB; rw [hz.out, hx]; rfl
        replace hx3 := hideit hx3
        go_wp2
        go_round
        case rel => exact ⟨k + 1, by omega, by go_num, hx3.out⟩
        case measure => simp [intOf]; omega
      · have hx2 : ¬ ((f k).toNat : Int) = 0 := fun e => hx (ne0.1 e)
        have hx3 := hideit (zB_false hx l hlt)
        go_wp2
        go_ret
        exact ⟨by rw [hx3.out]; rfl, rfl⟩
    · obtain rfl : k = l := by omega
      go_wp2
      go_ret
      exact ⟨by rw [hz.out]; rfl, rfl⟩
end Go.Proofs.Ytboncdlihgpepaa
