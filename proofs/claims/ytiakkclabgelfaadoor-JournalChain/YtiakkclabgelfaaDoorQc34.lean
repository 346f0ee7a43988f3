/-
  Slices of the call's own whose elements have K cells: how they grow by append, how they lie; no word of the program. What is read, whatever there is; numbers that are read.
-/
import Derived.Test.YtiakkclabgelfaaDoorQc11
import Derived.Test.YtiakkclabgelfaaDoorQc1
import Derived.Test.YtiakkclabgelfaaDoorQc26
namespace Go.Proofs.YtiakkclabgelfaaDoor
open Go.RowKit Go.BigFrame
structure ElemK (P : Program) (t e : TypeId) (K B : Nat) : Prop where
  slice : P.underlying t = some (.slice e)
  info : ∃ i z, P.info? e = some i ∧ i.zero = some z ∧ i.size = K ∧ i.bytes = B ∧ z.cells.size = K
theorem elem_k {P : Program} {t e : TypeId} {K B : Nat} (hs : P.underlying t = some (.slice e)) (h1 : (P.info? e).map (·.size) = some K) (h2 : (P.info? e).map (·.bytes) = some B) (h3 : ((P.info? e).bind (·.zero)).map (·.cells.size) = some K) : ElemK P t e K B := by
  refine ⟨hs, ?_⟩
  cases hi : P.info? e with
  | none => rw [hi] at h1; cases h1
  | some i =>
    rw [hi] at h1 h2 h3
    simp only [Option.map_some, Option.some.injEq, Option.bind_some] at h1 h2 h3
    cases hz : i.zero with
    | none => rw [hz] at h3; cases h3
    | some z =>
      rw [hz] at h3
      simp only [Option.map_some, Option.some.injEq] at h3
      exact ⟨i, z, rfl, hz, h1, h2, h3⟩
def OwnK (K base : Nat) (e : TypeId) (v : Value) (n : Nat) (g : Nat → Value) (w : World) : Prop := w.ownsRow base e K v n (row (n * K) g)
section
variable {K base : Nat} {e : TypeId} {v : Value} {n B : Nat} {g g' : Nat → Value} {w w' : World}
theorem OwnK.congr (h : OwnK K base e v n g w) (hg : ∀ j, j < n * K → g j = g' j) : OwnK K base e v n g' w := by
  unfold OwnK at h ⊢
  rw [← row_ext hg]
  exact h
theorem OwnK.ext (h : OwnK K base e v n g w) (k : Ext w w') : OwnK K base e v n g w' :=
  World.ownsRow.kept (row := none) h ⟨Below.os k, Below.tape k, Below.output k, Below.size k, fun i hi _ => Below.block k i hi⟩ (by cases v.ownBlock <;> simp)
theorem OwnK.but {c : Nat} (h : OwnK K base e v n g w) (k : But c w w') (hc : v.ownBlock ≠ some c) : OwnK K base e v n g w' := World.ownsRow.kept h k (.inr hc)
theorem OwnK.kept {row : Option Nat} (h : OwnK K base e v n g w) (hg : w.grownBy w' row) (hne : v.ownBlock = none ∨ v.ownBlock ≠ row) : OwnK K base e v n g w' := World.ownsRow.kept h hg hne
theorem OwnK.lt (h : OwnK K base e v n g w) : ∀ k, v.ownBlock = some k → base ≤ k ∧ k < w.heap.size := World.ownsRow.lt h
theorem OwnK.form (h : OwnK K base e v n g w) : ∃ o cp, v = .slice o n cp := by
  rcases h.2 with ⟨h1, h0⟩ | ⟨k, cap, cur, hv, _⟩
  · exact ⟨none, 0, by rw [h1, h0]⟩
  · exact ⟨_, _, hv⟩
theorem ownK_nil (w : World) (K base : Nat) (e : TypeId) (g : Nat → Value) : OwnK K base e (.slice none 0 0) 0 g w := by
  unfold OwnK
  rw [Nat.zero_mul]
  exact World.ownsRow_nil w base e K
theorem OwnK.lies (h : OwnK K base e v n g w) (hn : 0 < n) : ∃ b cap, v = .slice (some ⟨b, 0, none⟩) n cap ∧ base ≤ b ∧ n ≤ cap ∧ cap ≤ maxLen ∧ RowAt b (n * K) g w := by
  have h0 := h
  rcases h.2 with ⟨_, h2⟩ | ⟨b, cap, cur, rfl, hb, hg, hc, hm, _, ht⟩
  · omega
  · refine ⟨b, cap, rfl, hb, hc, hm, fun j hj => ?_, fun j hj => ?_, (Array.getElem?_eq_some_iff.1 hg).1⟩
    · have h1 := World.ownsRow.cells h0 (g := b) rfl j (g j) (row_get (n * K) g j hj)
      have hadd : (⟨b, 0, none⟩ : Addr).add j = ⟨b, j, none⟩ := by unfold Addr.add; split <;> simp_all
      rwa [hadd] at h1
    · simp [World.frozen?, hg]
end
end Go.Proofs.YtiakkclabgelfaaDoor
namespace Go.Proofs.YtiakkclabgelfaaDoor
set_option maxRecDepth 20000
open Go.RowKit Go.BigFrame
theorem uint_all (lo c l n : Nat) (f : Nat → BitVec 8) (bad : Bool) (w : World) (h : Rd lo c l f bad w) (hw : iswB n = true) (hn8 : n ≤ 8) :
    Calls Tryd.prog 60 #[.pointer (some ⟨c, 0, none⟩), .int .i64 (n : Int)] w fun e w' => ∃ (x : BitVec 64) (l' : Nat) (f' : Nat → BitVec 8) (bad' : Bool), e = .returned (.int .u64 (x.toNat : Int)) ∧ Rd lo c l' f' bad' w' ∧ But c w w' ∧ ((bad = false ∧ n ≤ l ∧ x = leN f n ∧ l' = l - n ∧ f' = shF f n ∧ bad' = false) ∨ (¬ (bad = false ∧ n ≤ l) ∧ x = 0#64 ∧ l' = l ∧ f' = f ∧ bad' = true)) := by
  by_cases hc : bad = false ∧ n ≤ l
  · obtain ⟨rfl, hn⟩ := hc
    refine (ruint_ok lo c l n f w h hn hw hn8).mono ?_
    rintro e w' ⟨rfl, h1, h2⟩
    exact ⟨leN f n, _, _, _, rfl, h1, h2, .inl ⟨rfl, hn, rfl, rfl, rfl, rfl⟩⟩
  · refine (ruint_not lo c l (n : Int) f bad w h ?_).mono ?_
    · rw [hw]
      cases bad with
      | true => rfl
      | false =>
        have : ¬ n ≤ l := fun e => hc ⟨rfl, e⟩
        simp [okN]
        omega
    · rintro e w' ⟨rfl, h1, h2⟩
      exact ⟨0#64, _, _, _, rfl, h1, h2, .inr ⟨hc, rfl, rfl, rfl, rfl⟩⟩
theorem bytes_all (lo c l n : Nat) (f : Nat → BitVec 8) (bad : Bool) (w : World) (h : Rd lo c l f bad w) (hl : l ≤ 140737488355328) :
    Calls Tryd.prog 59 #[.pointer (some ⟨c, 0, none⟩), .int .i64 (n : Int)] w fun e w' => ∃ (v : Value) (m : Nat) (l' : Nat) (f' : Nat → BitVec 8) (bad' : Bool), e = .returned v ∧ BV v m f w' ∧ Rd lo c l' f' bad' w' ∧ But c w w' ∧ ((bad = false ∧ n ≤ l ∧ m = n ∧ l' = l - n ∧ f' = shF f n ∧ bad' = false) ∨ (¬ (bad = false ∧ n ≤ l) ∧ m = 0 ∧ l' = l ∧ f' = f ∧ bad' = true)) := by
  by_cases hc : bad = false ∧ n ≤ l
  · obtain ⟨rfl, hn⟩ := hc
    refine (rbytes_ok lo c l n f w h hn hl).mono ?_
    rintro e w' ⟨v, rfl, h0, _, h1, h2⟩
    exact ⟨v, n, _, _, _, rfl, h0.bv, h1, h2, .inl ⟨rfl, hn, rfl, rfl, rfl, rfl⟩⟩
  · refine (rbytes_not lo c l (n : Int) f bad w h ?_).mono ?_
    · cases bad with
      | true => rfl
      | false =>
        have : ¬ n ≤ l := fun e => hc ⟨rfl, e⟩
        simp [okN]
        omega
    · rintro e w' ⟨rfl, h1, h2⟩
      exact ⟨_, 0, _, _, _, rfl, .inl ⟨rfl, rfl⟩, h1, h2, .inr ⟨hc, rfl, rfl, rfl, rfl⟩⟩
theorem leN4 (f : Nat → BitVec 8) : (leN f 4).toNat < 4294967296 := by
  have := leN_nat f 4 (by decide)
  omega
set_option maxRecDepth 20000 in
set_option maxHeartbeats 4000000 in
theorem get58 (lo r l : Nat) (f : Nat → BitVec 8) (w : World) (h : Rd lo r l f false w) : Calls Tryd.prog 94 #[.pointer (some ⟨r, 0, none⟩)] w fun e w' => ∃ (x : Int) (l' : Nat) (f' : Nat → BitVec 8) (bad' : Bool), e = .returned (.int .i64 x) ∧ Rd lo r l' f' bad' w' ∧ But r w w' ∧ ((4 ≤ l ∧ x = ((leN f 4).toNat : Int) ∧ l' = l - 4 ∧ f' = shF f 4 ∧ bad' = false) ∨ (l < 4 ∧ bad' = true)) := by
  have ku := hideit (uint_all lo r l 4 f false w h (by decide) (by decide))
  clear h
  go_enter Tryd.func94, Tryd.ntmps94
  go_upto_region 1 with (fail)
  refine wp_region_lit ?_
  refine wpList_run rfl (.pointer (some ⟨r, 0, none⟩)) (by simp [go_sem]) ?_
  simp only [zp0, zp1, zp2, zp3]
  refine wpList_call rfl (by simp [go_sem]) ((ku.out).mono ?_)
  rintro e w1 ⟨x, l', f', bad', rfl, h1, h2, h3⟩
  refine ⟨_, rfl, ?_⟩
  simp only [zp0, zp1, zp2, zp3]
  have hx : IntKind.i64.wrap (x.toNat : Int) = (x.toNat : Int) := by
    have : x.toNat < 4294967296 := by
      rcases h3 with ⟨_, _, e, _⟩ | ⟨_, e, _⟩
      · rw [e]; exact leN4 f
      · rw [e]; decide
    rw [IntKind.wrap_i64]
    omega
  refine wpList_run rfl (.int .i64 (x.toNat : Int)) (by simp [go_sem, hx]) ?_
  simp only [zp0, zp1, zp2, zp3]
  refine wpList_run rfl (.int .i64 (x.toNat : Int)) (by simp [go_sem]) ?_
  simp only [zp0, zp1, zp2, zp3]
  have hres : Hid ((4 ≤ l ∧ (x.toNat : Int) = ((leN f 4).toNat : Int) ∧ l' = l - 4 ∧ f' = shF f 4 ∧ bad' = false) ∨ (l < 4 ∧ bad' = true)) := by
    rcases h3 with ⟨_, e1, e2, e3, e4, e5⟩ | ⟨e1, _, _, _, e5⟩
    · exact .inl ⟨e1, by rw [e2], e3, e4, e5⟩
    · exact .inr ⟨by
        have : ¬ 4 ≤ l := fun e => e1 ⟨rfl, e⟩
        omega, e5⟩
  replace h1 := hideit h1
  replace h2 := hideit h2
  clear ku h3 hx
  go_wp2
  go_ret
  exact ⟨_, l', f', bad', rfl, h1.out, h2.out, hres.out⟩
theorem get_nil (w : World) : Sem.run Tryd.prog (binOp .eql 140 (.func (.func 94) #[] #[]) .nilFunc) w = .ok (.bool false) w := by kernel_rfl
theorem Rd.badcell {lo c l : Nat} {f : Nat → BitVec 8} {bad : Bool} {w : World} (h : Rd lo c l f bad w) : w.cell? ⟨c, 1, none⟩ = some (.bool bad) := by
  obtain ⟨v, h1, _⟩ := h
  exact h1.bad
theorem but_grown {c : Nat} {w X Y : World} {row : Option Nat} (h : But c w X) (hg : X.grownBy Y row) (hr : ∀ k, row = some k → w.heap.size ≤ k) : But c w Y :=
  ⟨hg.os.trans h.os, hg.tape.trans h.tape, hg.output.trans h.output, Nat.le_trans h.size hg.size, fun i hi hne => (hg.block i (Nat.lt_of_lt_of_le hi h.size) (fun hh => by have := hr i hh.symm; omega)).trans (h.block i hi hne)⟩
def gtI (f : Nat → BitVec 8) (i : Nat) : Int := ((leN (shF f (4 * i)) 4).toNat : Int)
theorem shF_two (f : Nat → BitVec 8) (a b : Nat) : shF (shF f a) b = shF f (a + b) := by
  funext j
  unfold shF
  rw [Nat.add_assoc]
theorem own_form3 {base n : Nat} {v : Value} {g : Nat → Value} {w : World} (h : OwnB base 3 v n g w) : ∃ o c, v = .slice o n c := by
  rcases h.2 with ⟨e, e'⟩ | ⟨g, cc, cur, e, _⟩
  · exact ⟨none, 0, by rw [e, e']⟩
  · exact ⟨_, cc, e⟩
def GetP (lo r l n : Nat) (f : Nat → BitVec 8) (bad : Bool) (w : World) (v : Value) (w' : World) : Prop := But r w w' ∧ ∃ (l' : Nat) (f' : Nat → BitVec 8) (bad' : Bool), Rd lo r l' f' bad' w' ∧ ((bad = false ∧ 4 * n ≤ l ∧ OwnB w.heap.size 3 v n (fun i => .int .i64 (gtI f i)) w' ∧ l' = l - 4 * n ∧ f' = shF f (4 * n) ∧ bad' = false) ∨ (¬ (bad = false ∧ 4 * n ≤ l) ∧ v = .slice none 0 0 ∧ bad' = true))
set_option maxRecDepth 20000 in
set_option maxHeartbeats 4000000 in
theorem get57 (lo r l n : Nat) (f : Nat → BitVec 8) (bad : Bool) (w : World) (h : Rd lo r l f bad w) (hlo : lo ≤ r) (hn : n ≤ 65535) : Calls Tryd.prog 93 #[.pointer (some ⟨r, 0, none⟩), .int .i64 (n : Int), .func (.func 94) #[] #[]] w fun e w' => ∃ v, e = .returned v ∧ GetP lo r l n f bad w v w' := by
  have hgn := get_nil
  have kh := hideit (rhas_any lo r l (n : Int) f bad w h)
  have hrw : Hid (r < w.heap.size) := h.lt
  by_cases hok : (!bad && okN (n : Int) l) = true
  · obtain ⟨rfl, hnl⟩ : bad = false ∧ n ≤ l := by
      rw [Bool.and_eq_true] at hok
      refine ⟨by simpa using hok.1, ?_⟩
      have := okN_true hok.2
      obtain ⟨k, e, h9⟩ := this
      omega
    rw [hok] at kh
    have hbd : (false || !okN (n : Int) l) = false := by
      rw [Bool.and_eq_true] at hok
      rw [hok.2]
      rfl
    rw [hbd] at kh
    clear hbd hok h
    replace hlo := hideit hlo
    go_enter Tryd.func93, Tryd.ntmps93
    go_upto_region 1 with (fail)
    refine wp_region_lit ?_
    refine wpList_run rfl (.pointer (some ⟨r, 0, none⟩)) (by simp [go_sem]) ?_
    simp only [zp0, zp1, zp2, zp3]
    refine wpList_run rfl (.bool false) (by simp [go_sem]) ?_
    simp only [zp0, zp1, zp2, zp3]
    refine wpList_run rfl (.bool false) (by simp [go_sem]) ?_
    simp only [zp0, zp1, zp2, zp3]
    refine wpList_runW rfl (.pointer (some ⟨r, 0, none⟩)) (by simp [go_sem]) ?_
    simp only [zp0, zp1, zp2, zp3]
    refine wpList_runW rfl (.int .i64 (n : Int)) (by simp [go_sem]) ?_
    simp only [zp0, zp1, zp2, zp3]
    refine wpList_callW rfl (by simp [go_sem]) ((kh.out).mono ?_)
    rintro e w1 ⟨rfl, hR1, hB1⟩
    refine ⟨_, rfl, ?_⟩
    simp only [zp0, zp1, zp2, zp3]
    refine wpList_runW rfl (.bool false) (by simp [go_sem]) ?_
    simp only [zp0, zp1, zp2, zp3]
    refine wpList_run rfl (.bool false) (by simp [go_sem]) ?_
    simp only [zp0, zp1, zp2, zp3]
    refine wpList_run rfl (.bool false) (by simp [go_sem]) ?_
    simp only [zp0, zp1, zp2, zp3]
    refine wpList_runW rfl (.func (.func 94) #[] #[]) (by simp [go_sem]) ?_
    simp only [zp0, zp1, zp2, zp3]
    have hgn1 := hgn w1
    refine wpList_runW rfl (.bool false) (by simp [go_sem, hgn1]) ?_
    simp only [zp0, zp1, zp2, zp3]
    refine wpList_run rfl (.bool false) (by simp [go_sem]) ?_
    simp only [zp0, zp1, zp2, zp3]
    clear kh hgn hgn1
    have hS : Hid (OwnB w.heap.size 3 (.slice none 0 0) 0 (fun i => .int .i64 (gtI f i)) w1 ∧ Rd lo r (l - 4 * 0) (shF f (4 * 0)) false w1 ∧ But r w w1) := ⟨own_nil _ _ _ _, by
      have e1 : shF f (4 * 0) = f := by funext j; unfold shF; rw [Nat.mul_zero, Nat.zero_add]
      rw [e1, Nat.mul_zero, Nat.sub_zero]
      exact hR1, hB1⟩
    clear hR1 hB1
    go_wp2
    go_loopw [7, 8, 22] (fun v _ i X => ∃ k : Nat, k ≤ n ∧ 4 * k ≤ l ∧ i = .int .i64 k ∧ OwnB w.heap.size 3 v k (fun i => .int .i64 (gtI f i)) X ∧ Rd lo r (l - 4 * k) (shF f (4 * k)) false X ∧ But r w X) (fun _ _ i _ => 70000 - (intOf i).toNat)
    case atStart => exact ⟨0, Nat.zero_le _, Nat.zero_le _, rfl, hS.out.1, hS.out.2.1, hS.out.2.2⟩
    case round =>
      clear hS
      obtain ⟨k, hk, hkl, rfl, hO, hR, hB⟩ := hrel
      obtain ⟨ov, cv, rfl⟩ := own_form3 hO
      by_cases hlt : k < n
      · have k0 : (0 : Int) ≤ (k : Int) := by omega
        have k1 : (k : Int) < (n : Int) := by omega
        have kk := hideit (get58 lo r (l - 4 * k) (shF f (4 * k)) wr hR)
        have hnb : Hid ((Value.slice ov k cv).ownBlock ≠ some r) := fun hh => by have := (hO.lt r hh).1; have := hrw.out; omega
        replace hO := hideit hO
        replace hB := hideit hB
        clear hR
        go_upto_region 5 with (fail)
        refine wp_region_lit ?_
        refine wpList_run rfl (.bool true) (by simp [go_sem, k1]) ?_
        simp only [zp0, zp1, zp2, zp3]
        go_upto_region 6 with (fail)
        refine wp_region_lit ?_
        refine wpList_run rfl (.func (.func 94) #[] #[]) (by simp [go_sem]) ?_
        simp only [zp0, zp1, zp2, zp3]
        refine wpList_run rfl (.pointer (some ⟨r, 0, none⟩)) (by simp [go_sem]) ?_
        simp only [zp0, zp1, zp2, zp3]
        refine wpList_call rfl (by simp [go_sem]) ((kk.out).mono ?_)
        rintro e w2 ⟨x, l', f', bad', rfl, hR2, hB2, hres⟩
        refine ⟨_, rfl, ?_⟩
        simp only [zp0, zp1, zp2, zp3]
        refine wpList_run rfl (.int .i64 x) (by simp [go_sem]) ?_
        simp only [zp0, zp1, zp2, zp3]
        have hO2 := hO.out.but hB2 hnb.out
        have hL2 := hB.out.trans hB2
        have e1 := hR2.badcell
        clear kk hO hB
        go_upto_region 7 with (fail)
        refine wp_region_lit ?_
        refine wpList_run rfl (.pointer (some ⟨r, 0, none⟩)) (by simp [go_sem]) ?_
        simp only [zp0, zp1, zp2, zp3]
        refine wpList_run rfl (.pointer (some ⟨r, 0, none⟩)) (by simp [go_sem]) ?_
        simp only [zp0, zp1, zp2, zp3]
        refine wpList_run rfl (.pointer (some ⟨r, 1, none⟩)) (by simp [go_sem]) ?_
        simp only [zp0, zp1, zp2, zp3]
        refine wpList_run rfl (.bool bad') (by simp [go_sem, e1]) ?_
        simp only [zp0, zp1, zp2, zp3]
        clear e1
        rcases hres with ⟨q1, q2, q3, q4, q5⟩ | ⟨q1, q5⟩
        · subst q2
          subst q5
          rw [shF_two, show 4 * k + 4 = 4 * (k + 1) by omega] at q4
          rw [q3, q4, show l - 4 * k - 4 = l - 4 * (k + 1) by omega] at hR2
          have hX3 : Ext w2 (w2.alloc (.cells #[.int .i64 ((leN (shF f (4 * k)) 4).toNat : Int)] 3)) := (Below.refl _ _).alloc (Nat.le_refl _) _
          have hN3 : LieAt ⟨w2.heap.size, 0, none⟩ 1 (fun _ => .int .i64 ((leN (shF f (4 * k)) 4).toNat : Int)) (w2.alloc (.cells #[.int .i64 ((leN (shF f (4 * k)) 4).toNat : Int)] 3)) := (row_new1 w2 _ 3).lie 1 (Nat.le_refl _)
          have O3 := hO2.ext hX3
          have R3 := hR2.ext hX3
          have L3 := hL2.ext hX3
          clear hO2 hR2 hL2 q3 q4 hB2
          go_upto_region 9 with (fail)
          refine wp_region_lit ?_
          refine wpList_run rfl (.slice ov k cv) (by simp [go_sem]) ?_
          simp only [zp0, zp1, zp2, zp3]
          refine wpList_run rfl (.int .i64 ((leN (shF f (4 * k)) 4).toNat : Int)) (by simp [go_sem]) ?_
          simp only [zp0, zp1, zp2, zp3]
          refine wpList_to rfl (.slice (some ⟨w2.heap.size, 0, none⟩) 1 1) (w2.alloc (.cells #[.int .i64 ((leN (shF f (4 * k)) 4).toNat : Int)] 3)) (by simp [go_sem]) ?_
          simp only [zp0, zp1, zp2, zp3]
          generalize w2.alloc (.cells #[.int .i64 ((leN (shF f (4 * k)) 4).toNat : Int)] 3) = Y at *
          generalize w2.heap.size = q9 at *
          refine wpList_growE (n := k) (base := w.heap.size) elem36 rfl (.tmp 31) (.tmp 33) rfl rfl O3 ⟨q9, 0, none⟩ 1 1 (fun _ => .int .i64 ((leN (shF f (4 * k)) 4).toNat : Int)) (fun i => .int .i64 (gtI f i)) rfl hN3 (fun j _ => rfl) (fun j hj => rfl) (fun j hj => by rw [show k + j = k by omega]; rfl) (by omega) (by omega) L3.size ?_
          intro v4 w4 hO4 hg4
          have L4 := hideit (but_grown L3 hg4 (fun q hq => (O3.lt q hq).1))
          have R4 := hideit (R3.below (B := w.heap.size) hrw.out (below_grown L3.size hg4 fun q hq => (O3.lt q hq).1))
          replace hO4 := hideit hO4
          clear O3 R3 L3 hN3 hg4 hX3
          simp only [zp0, zp1, zp2, zp3]
          refine wpList_run rfl (v4) (by simp [go_sem]) ?_
          simp only [zp0, zp1, zp2, zp3]
          go_wp2
          exact ⟨⟨k + 1, by omega, by omega, by go_num, hO4.out, R4.out, L4.out⟩, by simp [intOf]; omega⟩
        · subst q5
          have hfin : Hid (GetP lo r l n f false w (.slice none 0 0) w2) := ⟨hL2, l', f', true, hR2, .inr ⟨fun e => by omega, rfl, rfl⟩⟩
          clear hO2 hL2 hR2 hB2
          go_wp2
          go_ret
          exact ⟨_, rfl, hfin.out⟩
      · obtain rfl : k = n := by omega
        have k1 : ¬ (k : Int) < (k : Int) := by omega
        have hfin : Hid (GetP lo r l k f false w (.slice ov k cv) wr) := ⟨hB, _, _, _, hR, .inl ⟨rfl, hkl, hO, rfl, rfl, rfl⟩⟩
        clear hO hR hB
        go_wp2
        go_ret
        exact ⟨_, rfl, hfin.out⟩
  · have hok' : (!bad && okN (n : Int) l) = false := by simpa using hok
    rw [hok'] at kh
    have hbd : (bad || !okN (n : Int) l) = true := by
      revert hok'
      cases bad <;> cases okN (n : Int) l <;> simp
    rw [hbd] at kh
    have hneg : ¬ (bad = false ∧ 4 * n ≤ l) := fun e => by
      rw [e.1, okN_nat (by omega : n ≤ l)] at hok'
      cases hok'
    clear hbd hok hok' h
    go_enter Tryd.func93, Tryd.ntmps93
    go_upto_region 1 with (fail)
    refine wp_region_lit ?_
    refine wpList_run rfl (.pointer (some ⟨r, 0, none⟩)) (by simp [go_sem]) ?_
    simp only [zp0, zp1, zp2, zp3]
    refine wpList_run rfl (.bool false) (by simp [go_sem]) ?_
    simp only [zp0, zp1, zp2, zp3]
    refine wpList_run rfl (.bool false) (by simp [go_sem]) ?_
    simp only [zp0, zp1, zp2, zp3]
    refine wpList_runW rfl (.pointer (some ⟨r, 0, none⟩)) (by simp [go_sem]) ?_
    simp only [zp0, zp1, zp2, zp3]
    refine wpList_runW rfl (.int .i64 (n : Int)) (by simp [go_sem]) ?_
    simp only [zp0, zp1, zp2, zp3]
    refine wpList_callW rfl (by simp [go_sem]) ((kh.out).mono ?_)
    rintro e w1 ⟨rfl, hR1, hB1⟩
    refine ⟨_, rfl, ?_⟩
    simp only [zp0, zp1, zp2, zp3]
    refine wpList_runW rfl (.bool true) (by simp [go_sem]) ?_
    simp only [zp0, zp1, zp2, zp3]
    refine wpList_run rfl (.bool true) (by simp [go_sem]) ?_
    simp only [zp0, zp1, zp2, zp3]
    refine wpList_run rfl (.bool true) (by simp [go_sem]) ?_
    simp only [zp0, zp1, zp2, zp3]
    refine wpList_skip rfl ?_
    simp only [zp0, zp1, zp2, zp3]
    refine wpList_skip rfl ?_
    simp only [zp0, zp1, zp2, zp3]
    refine wpList_run rfl (.bool true) (by simp [go_sem]) ?_
    simp only [zp0, zp1, zp2, zp3]
    have hfin : Hid (GetP lo r l n f bad w (.slice none 0 0) w1) := ⟨hB1, _, _, _, hR1, .inr ⟨hneg, rfl, rfl⟩⟩
    clear kh hgn hR1 hB1
    go_wp2
    go_ret
    exact ⟨_, rfl, hfin.out⟩
end Go.Proofs.YtiakkclabgelfaaDoor
