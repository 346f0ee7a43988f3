/-
  The plan in a block. What a plan says; what a mark says.
-/
import Derived.Test.YtiakkclabgelfaaDoorQc1
import Derived.Test.YtiakkclabgelfaaDoorQc34
namespace Go.Proofs.YtiakkclabgelfaaDoor
set_option maxRecDepth 20000
open Go.RowKit Go.BigFrame
def nP (f : Nat → BitVec 8) : BitVec 64 := leN (shF f 4) 8
def cP (f : Nat → BitVec 8) : Nat := (leN (shF f 12) 2).toNat
def tP (f : Nat → BitVec 8) : BitVec 64 := leN (shF f 14) 8
def bP (f : Nat → BitVec 8) (i : Nat) : Int := gtI (shF f 22) i
def isPl (l : Nat) (f : Nat → BitVec 8) : Prop := l = 512 ∧ eqB 4 4 f (labF sPL) = true ∧ 4 * cP f ≤ 490 ∧ zB (shF f (22 + 4 * cP f)) (490 - 4 * cP f) = true ∧ mayP (nP f) (tP f) (cP f) (bP f)
theorem pl_str : bstr 4 (fun j => ((labF sPL j).toNat : Int)) = sPL := by
  have h := bstr_data 4 (labF sPL)
  have h2 : ((List.range 4).map fun j => UInt8.ofNat (labF sPL j).toNat) = sPL.data.toList := by decide
  rw [h2] at h
  generalize bstr 4 (fun j => ((labF sPL j).toNat : Int)) = a at *
  generalize sPL = b at *
  cases a
  cases b
  simp at h
  rw [h]
structure PI (w : World) (r0 c p lo : Nat) (x t : BitVec 64) (v : Value) (l : Nat) (f : Nat → BitVec 8) (bad : Bool) (X : World) : Prop where
  res : RowAt r0 3 (plV 0#64 0#64 (.slice none 0 0)) X
  row : RowAt p 3 (plV x t v) X
  rd : Rd lo c l f bad X
  o1 : w.heap.size ≤ r0
  o2 : r0 < lo
  o3 : lo ≤ c
  o4 : c < p
  ext : Ext w X
section
variable {w X Y : World} {r0 c p lo l l' : Nat} {x t : BitVec 64} {v : Value} {f f' : Nat → BitVec 8} {bad bad' : Bool}
theorem PI.read (h : PI w r0 c p lo x t v l f bad X) (k : But c X Y) (r : Rd lo c l' f' bad' Y) : PI w r0 c p lo x t v l' f' bad' Y :=
  { h with res := h.res.but k (by have := h.o2; have := h.o3; omega), row := h.row.but k (by have := h.o4; omega), rd := r, ext := Below.trans h.ext (But.below k (by have := h.o1; have := h.o2; have := h.o3; omega) (Below.size h.ext)) }
theorem PI.setT (h : PI w r0 c p lo x t v l f bad X) (t' : BitVec 64) : PI w r0 c p lo x t' v l f bad (X.setCell ⟨p, 1, none⟩ (.int .u64 (t'.toNat : Int))) := by
  have k := but_setCell X p 1 (.int .u64 (t'.toNat : Int))
  exact { h with res := h.res.but k (by have := h.o2; have := h.o3; have := h.o4; omega), row := (h.row.set 1 _).congr fun j hj => by rcases (by omega : j = 0 ∨ j = 1 ∨ j = 2) with rfl | rfl | rfl <;> rfl, rd := h.rd.but k (.inr h.o4) h.o3, ext := Below.trans h.ext (But.below k (by have := h.o1; have := h.o2; have := h.o3; have := h.o4; omega) (Below.size h.ext)) }
theorem PI.setV (h : PI w r0 c p lo x t v l f bad X) (v' : Value) : PI w r0 c p lo x t v' l f bad (X.setCell ⟨p, 2, none⟩ v') := by
  have k := but_setCell X p 2 v'
  exact { h with res := h.res.but k (by have := h.o2; have := h.o3; have := h.o4; omega), row := (h.row.set 2 _).congr fun j hj => by rcases (by omega : j = 0 ∨ j = 1 ∨ j = 2) with rfl | rfl | rfl <;> rfl, rd := h.rd.but k (.inr h.o4) h.o3, ext := Below.trans h.ext (But.below k (by have := h.o1; have := h.o2; have := h.o3; have := h.o4; omega) (Below.size h.ext)) }
end
def PlP (w : World) (l : Nat) (f : Nat → BitVec 8) (u : Value) (ok : Bool) (w' : World) : Prop :=
  Ext w w' ∧ ((ok = true ∧ isPl l f ∧ ∃ v, u = plA (nP f) (tP f) v ∧ OwnB w.heap.size 3 v (cP f) (fun i => .int .i64 (bP f i)) w') ∨ (ok = false ∧ ¬ isPl l f ∧ u = plA 0#64 0#64 (.slice none 0 0)))
def PlQ (w : World) (l : Nat) (f : Nat → BitVec 8) (e : Ending) (w' : World) : Prop := ∃ (a : Value) (ok : Bool), e = .returned (.tuple #[a, .bool ok]) ∧ PlP w l f a ok w'
theorem plq_mk {w w' : World} {l : Nat} {f : Nat → BitVec 8} {e : Ending} (a : Value) (ok : Bool) (h : e = .returned (.tuple #[a, .bool ok])) (k : PlP w l f a ok w') : PlQ w l f e w' := ⟨a, ok, h, k⟩
theorem ret_row2 {P : Program} {F : Func} {tmps : Array Value} {k k2 : Nat} {t : TypeId} {b n : Nat} {g : Nat → Value} {X : World} {d : TypeDesc} (hF : F.results = #[.cell k t, .tmp k2]) (ht : tmps.getD k undef = .pointer (some ⟨b, 0, none⟩)) (h : RowAt b n g X)
    (hu : P.underlying t = some d) (hd : d.isRow = true) (hi : (P.info? t).map (·.size) = some n) : Sem.run P (results F tmps) X = .ok (.tuple #[.agg (row n g).toArray, tmps.getD k2 undef]) X := by
  have hl := run_loadVar_mid (P := P) X b 0 t (row n g) d h.range hu hd (by rw [row_length]; exact hi)
  unfold results
  rw [hF]
  simp only [List.mapM_toArray, List.mapM_cons, List.mapM_nil, ht]
  simp [asAddr, hl]
theorem rdone_bad {lo c l : Nat} {f : Nat → BitVec 8} {w : World} (h : Rd lo c l f true w) : Calls Tryd.prog 95 #[.pointer (some ⟨c, 0, none⟩)] w fun e w' => e = .returned (.int .i64 90) ∧ w' = w := by
  obtain ⟨v, h1, _⟩ := h
  have e0 := h1.bytes
  have e1 := h1.bad
  clear h1
  go_enter Tryd.func95, Tryd.ntmps95
  go_wp2
  go_ret
  exact ⟨rfl, rfl⟩
theorem bP_ok (f : Nat → BitVec 8) (i : Nat) : okI (bP f i) := by
  have := leN4 (shF (shF f 22) (4 * i))
  unfold bP gtI
  exact WalkArith.wf_i64 (by omega)
set_option maxRecDepth 20000 in
set_option maxHeartbeats 4000000 in
theorem planIn_any (u : Value) (l : Nat) (f : Nat → BitVec 8) (w : World) (hu : BV u l f w) (hl : l ≤ 140737488355328) : Calls Tryd.prog 82 #[u] w (PlQ w l f) := by
  obtain ⟨uo, ucp, rfl⟩ := hu.form
  have hr1 : RowAt w.heap.size 3 (plV 0#64 0#64 (.slice none 0 0)) (w.alloc (.cells #[.int .u64 0, .int .u64 0, .slice none 0 0] 76)) := RowAt.newOf w 3 _ 76 _ fun j hj => by rcases (by omega : j = 0 ∨ j = 1 ∨ j = 2) with rfl | rfl | rfl <;> rfl
  have hX1 : Ext w (w.alloc (.cells #[.int .u64 0, .int .u64 0, .slice none 0 0] 76)) := (Below.refl _ _).alloc (Nat.le_refl _) _
  have hz1 : (w.alloc (.cells #[.int .u64 0, .int .u64 0, .slice none 0 0] 76)).heap.size = w.heap.size + 1 := by simp
  replace hu := hu.ext hX1
  go_enter Tryd.func82, Tryd.ntmps82
  go_upto_region 0 with (fail)
  refine wp_region_lit ?_
  refine wpList_to rfl (.pointer (some ⟨w.heap.size, 0, none⟩)) (w.alloc (.cells #[.int .u64 0, .int .u64 0, .slice none 0 0] 76)) (alloc47 rfl) ?_
  simp only [zp0, zp1, zp2, zp3]
  refine wpList_run rfl (.bool false) (by simp [go_sem]) ?_
  simp only [zp0, zp1, zp2, zp3]
  generalize w.alloc (.cells #[.int .u64 0, .int .u64 0, .slice none 0 0] 76) = w1 at *
  obtain ⟨r0, hr0⟩ : ∃ r0, r0 = w.heap.size := ⟨_, rfl⟩
  rw [← hr0] at hr1 ⊢
  have kn := hideit (newr_any (.slice uo l ucp) l f w1 hu hl)
  go_upto_region 1 with (fail)
  refine wp_region_lit ?_
  refine wpList_run rfl (.slice uo l ucp) (by simp [go_sem]) ?_
  simp only [zp0, zp1, zp2, zp3]
  refine wpList_call rfl (by simp [go_sem]) ((kn.out).mono ?_)
  rintro e w2 ⟨c, rfl, hc, hR2, hX2⟩
  refine ⟨_, rfl, ?_⟩
  simp only [zp0, zp1, zp2, zp3]
  refine wpList_run rfl (.pointer (some ⟨c, 0, none⟩)) (by simp [go_sem]) ?_
  simp only [zp0, zp1, zp2, zp3]
  have kb := hideit (bytes_all w1.heap.size c l 4 f false w2 hR2 hl)
  have hr2 := hr1.carry hX2
  have hE2 := Ext.trans hX1 hX2
  clear kn hu
  go_upto_region 2 with (fail)
  refine wp_region_lit ?_
  refine wpList_run rfl (.pointer (some ⟨c, 0, none⟩)) (by simp [go_sem]) ?_
  simp only [zp0, zp1, zp2, zp3]
  refine wpList_call rfl (by simp [go_sem]) ((kb.out).mono ?_)
  rintro e w3 ⟨v3, m3, l3, f3, b3, rfl, hv3, hR3, hB3, hq3⟩
  refine ⟨_, rfl, ?_⟩
  simp only [zp0, zp1, zp2, zp3]
  obtain ⟨o3, c3, rfl⟩ := hv3.form
  have ca := convV _ _ _ w3 hv3
  obtain ⟨nb, hnb⟩ : ∃ nb, nb = eqB m3 4 f (labF sPL) := ⟨_, rfl⟩
  have hse : (bstr m3 fun j => ((f j).toNat : Int)) = sPL ↔ nb = true := by rw [hnb, ← eqB_iff, pl_str]
  generalize (bstr m3 fun j => ((f j).toNat : Int)) = a3 at *
  have hcmp := (streq_run .eql a3 sPL nb hse w3).1
  unfold sPL at hcmp
  refine wpList_run rfl (.string a3) (by simp [go_sem, ca]) ?_
  simp only [zp0, zp1, zp2, zp3]
  refine wpList_run rfl (.bool nb) (by simp [go_sem] at hcmp ⊢; exact hcmp) ?_
  simp only [zp0, zp1, zp2, zp3]
  refine wpList_run rfl (.bool nb) (by simp [go_sem]) ?_
  simp only [zp0, zp1, zp2, zp3]
  have ku := hideit (uint_all w1.heap.size c l3 8 f3 b3 w3 hR3 (by decide) (by decide))
  have hr3 := hr2.but hB3 (by omega)
  have hE3 : Ext w w3 := Below.trans hE2 (But.below hB3 (by omega) (Below.size hE2))
  clear kb ca hse hcmp hv3 hR2 hr2 hB3
  go_upto_region 3 with (fail)
  refine wp_region_lit ?_
  refine wpList_run rfl (.pointer (some ⟨c, 0, none⟩)) (by simp [go_sem]) ?_
  simp only [zp0, zp1, zp2, zp3]
  refine wpList_call rfl (by simp [go_sem]) ((ku.out).mono ?_)
  rintro e w4 ⟨x1, l4, f4, b4, rfl, hR4, hB4, hq4⟩
  refine ⟨_, rfl, ?_⟩
  simp only [zp0, zp1, zp2, zp3]
  have hr4 := hr3.but hB4 (by omega)
  have hE4 : Ext w w4 := Below.trans hE3 (But.below hB4 (by omega) (Below.size hE3))
  have hpr : RowAt w4.heap.size 3 (plV 0#64 0#64 (.slice none 0 0)) (w4.alloc (.cells #[.int .u64 0, .int .u64 0, .slice none 0 0] 76)) := RowAt.newOf w4 3 _ 76 _ fun j hj => by rcases (by omega : j = 0 ∨ j = 1 ∨ j = 2) with rfl | rfl | rfl <;> rfl
  have hX5 : Ext w4 ((w4.alloc (.cells #[.int .u64 0, .int .u64 0, .slice none 0 0] 76)).setCells w4.heap.size 0 (row 3 (plV x1 0#64 (.slice none 0 0)))) := below_setCells w4.heap.size (Nat.le_refl _) _ 0 _ ((Below.refl _ _).alloc (Nat.le_refl _) _)
  have hcl : c < w4.heap.size := hR4.lt
  have hI5 : PI w r0 c w4.heap.size w1.heap.size x1 0#64 (.slice none 0 0) l4 f4 b4 ((w4.alloc (.cells #[.int .u64 0, .int .u64 0, .slice none 0 0] 76)).setCells w4.heap.size 0 (row 3 (plV x1 0#64 (.slice none 0 0)))) := ⟨hr4.carry hX5, hpr.cells, hR4.ext hX5, by omega, by omega, hc, hcl, Ext.trans hE4 hX5⟩
  refine wpList_run rfl (.agg (row 3 (plV x1 0#64 (.slice none 0 0))).toArray) (by simp [go_sem]; rfl) ?_
  simp only [zp0, zp1, zp2, zp3]
  refine wpList_to rfl (.pointer (some ⟨w4.heap.size, 0, none⟩)) (w4.alloc (.cells #[.int .u64 0, .int .u64 0, .slice none 0 0] 76)) (alloc47 rfl) ?_
  simp only [zp0, zp1, zp2, zp3]
  refine wpList_store_mid rfl 76 (.tmp 6) (.tmp 16) rfl w4.heap.size 0 (row 3 (plV x1 0#64 (.slice none 0 0))).toArray rfl rfl (by rw [row_size]; exact hpr.there) (by rw [row_size]; exact info47) (row_one (plV_one rfl)) ?_
  rw [show (row 3 (plV x1 0#64 (.slice none 0 0))).toArray.toList = row 3 (plV x1 0#64 (.slice none 0 0)) from rfl]
  generalize (w4.alloc (.cells #[.int .u64 0, .int .u64 0, .slice none 0 0] 76)).setCells w4.heap.size 0 (row 3 (plV x1 0#64 (.slice none 0 0))) = w5 at *
  generalize w4.heap.size = p at *
  generalize w1.heap.size = lo at *
  simp only [Act.put]
  have ku2 := hideit (uint_all lo c l4 2 f4 b4 w5 hI5.rd (by decide) (by decide))
  clear ku hr1 hr3 hr4 hE2 hE3 hE4 hpr hX5 hX2 hX1 hB4 hR3 hR4 hr0 hz1
  go_upto_region 4 with (fail)
  refine wp_region_lit ?_
  refine wpList_run rfl (.pointer (some ⟨c, 0, none⟩)) (by simp [go_sem]) ?_
  simp only [zp0, zp1, zp2, zp3]
  refine wpList_call rfl (by simp [go_sem]) ((ku2.out).mono ?_)
  rintro e w6 ⟨x2, l6, f6, b6, rfl, hR6, hB6, hq6⟩
  refine ⟨_, rfl, ?_⟩
  simp only [zp0, zp1, zp2, zp3]
  have hI6 := hI5.read hB6 hR6
  have hx2 : x2.toNat ≤ 65535 := by
    rcases hq6 with ⟨_, _, e, _⟩ | ⟨_, e, _⟩
    · rw [e]
      have := leN_nat f4 2 (by decide)
      omega
    · rw [e]; decide
  have hxw : IntKind.i64.wrap (x2.toNat : Int) = (x2.toNat : Int) := by rw [IntKind.wrap_i64]; omega
  have ku8 := hideit (uint_all lo c l6 8 f6 b6 w6 hR6 (by decide) (by decide))
  refine wpList_run rfl (.int .i64 (x2.toNat : Int)) (by simp [go_sem, hxw]) ?_
  simp only [zp0, zp1, zp2, zp3]
  refine wpList_run rfl (.int .i64 (x2.toNat : Int)) (by simp [go_sem]) ?_
  simp only [zp0, zp1, zp2, zp3]
  clear ku2 hI5 hB6 hR6 hxw
  go_upto_region 5 with (fail)
  refine wp_region_lit ?_
  refine wpList_run rfl (.pointer (some ⟨c, 0, none⟩)) (by simp [go_sem]) ?_
  simp only [zp0, zp1, zp2, zp3]
  refine wpList_call rfl (by simp [go_sem]) ((ku8.out).mono ?_)
  rintro e w7 ⟨x3, l7, f7, b7, rfl, hR7, hB7, hq7⟩
  refine ⟨_, rfl, ?_⟩
  simp only [zp0, zp1, zp2, zp3]
  have hI7 := hI6.read hB7 hR7
  have hI8 := hI7.setT x3
  have c1 : w7.cell? ⟨p, 1, none⟩ = some (.int .u64 0) := hI7.row.1 1 (by decide)
  have z1 : w7.frozen? ⟨p, 1, none⟩ = false := hI7.row.2.1 1 (by decide)
  refine wpList_run rfl (.pointer (some ⟨p, 1, none⟩)) (by simp [go_sem]) ?_
  simp only [zp0, zp1, zp2, zp3]
  refine wpList_st9 rfl (w7.setCell ⟨p, 1, none⟩ (.int .u64 (x3.toNat : Int))) (by simp [go_sem, c1, z1]) ?_
  simp only [Act.put]
  generalize w7.setCell ⟨p, 1, none⟩ (.int .u64 (x3.toNat : Int)) = w8 at *
  have kg := hideit (get57 lo c l7 x2.toNat f7 b7 w8 hI8.rd hI8.o3 hx2)
  clear ku8 hI6 hI7 hB7 hR7 c1 z1
  go_upto_region 6 with (fail)
  refine wp_region_lit ?_
  refine wpList_run rfl (.pointer (some ⟨c, 0, none⟩)) (by simp [go_sem]) ?_
  simp only [zp0, zp1, zp2, zp3]
  refine wpList_run rfl (.int .i64 (x2.toNat : Int)) (by simp [go_sem]) ?_
  simp only [zp0, zp1, zp2, zp3]
  refine wpList_call rfl (by simp [go_sem]) ((kg.out).mono ?_)
  rintro e w9 ⟨gv, rfl, hB9, l9, f9, b9, hR9, hq9⟩
  refine ⟨_, rfl, ?_⟩
  simp only [zp0, zp1, zp2, zp3]
  have hI9' := hI8.read hB9 hR9
  have c2 := hI9'.row.1 2 (by decide)
  have z2 : w9.frozen? ⟨p, 2, none⟩ = false := hI9'.row.2.1 2 (by decide)
  have hgf : ∃ o c, gv = .slice o (if b9 = true then 0 else x2.toNat) c := by
    rcases hq9 with ⟨_, _, h, _, _, e⟩ | ⟨_, h, e⟩
    · rw [e, if_neg (by decide)]
      exact own_form3 h
    · rw [h, e, if_pos rfl]
      exact ⟨_, _, rfl⟩
  obtain ⟨go, gc, hgv⟩ := hgf
  have hI9 := hI9'.setV gv
  have hOv : b9 = false → OwnB w8.heap.size 3 gv x2.toNat (fun i => .int .i64 (gtI f7 i)) (w9.setCell ⟨p, 2, none⟩ gv) := fun e => by
    rcases hq9 with ⟨_, _, h, _⟩ | ⟨_, _, e'⟩
    · exact h.but (but_setCell _ _ _ _) fun hh => by
        have := (h.lt p hh).1
        have := hI8.row.2.2
        omega
    · rw [e] at e'
      cases e'
  refine wpList_run rfl (.pointer (some ⟨p, 2, none⟩)) (by simp [go_sem]) ?_
  simp only [zp0, zp1, zp2, zp3]
  refine wpList_st9 rfl (w9.setCell ⟨p, 2, none⟩ gv) (by rw [hgv] at *; simp [go_sem, c2, z2]) ?_
  simp only [Act.put]
  generalize w9.setCell ⟨p, 2, none⟩ gv = wz at *
  have hw8 : w.heap.size ≤ w8.heap.size := Below.size hI8.ext
  have hr8 : r0 < w8.heap.size := hI8.res.2.2
  have hall : Hid (l = 512 → (nb = true ↔ eqB 4 4 f (labF sPL) = true) ∧ x1 = nP f ∧ x2.toNat = cP f ∧ x3 = tP f ∧ ((4 * cP f ≤ 490 ∧ l9 = 490 - 4 * cP f ∧ f9 = shF f (22 + 4 * cP f) ∧ b9 = false ∧ OwnB w8.heap.size 3 gv (cP f) (fun i => .int .i64 (bP f i)) wz) ∨ (¬ 4 * cP f ≤ 490 ∧ b9 = true))) := fun h5 => by
    subst h5
    obtain ⟨_, _, rfl, rfl, rfl, rfl⟩ := hq3.resolve_right fun h => h.1 ⟨rfl, by decide⟩
    obtain ⟨_, _, rfl, rfl, rfl, rfl⟩ := hq4.resolve_right fun h => h.1 ⟨rfl, by decide⟩
    obtain ⟨_, _, rfl, rfl, rfl, rfl⟩ := hq6.resolve_right fun h => h.1 ⟨rfl, by decide⟩
    obtain ⟨_, _, rfl, rfl, rfl, rfl⟩ := hq7.resolve_right fun h => h.1 ⟨rfl, by decide⟩
    rw [shF_two, shF_two, shF_two] at hq9
    rw [shF_two, shF_two, shF_two] at hOv
    refine ⟨by rw [hnb], rfl, by rw [shF_two]; rfl, by rw [shF_two, shF_two]; rfl, ?_⟩
    have hcc : (leN (shF f (4 + 8)) 2).toNat = cP f := rfl
    rw [hcc] at hq9 hOv
    rcases hq9 with ⟨_, q2, _, q4, q5, q6⟩ | ⟨q1, _, q6⟩
    · refine .inl ⟨q2, q4, ?_, q6, hOv q6⟩
      rw [q5, shF_two]
    · exact .inr ⟨fun h => q1 ⟨rfl, h⟩, q6⟩
  replace hI9 := hideit hI9
  clear kg hq3 hq4 hq6 hq7 hq9 hOv hI9' hI8 hB9 hR9 c2 z2 hnb hx2
  by_cases hnb1 : nb = true
  · subst hnb1
    by_cases h5 : l = 512
    · subst h5
      obtain ⟨g1, g2, g3, g4, g5⟩ := hall.out rfl
      have hpre := g1.1 rfl
      have i5 : ((512 : Nat) : Int) = 512 := rfl
      rcases g5 with ⟨q1, q2, q3, q4, q5⟩ | ⟨q1, q4⟩
      · subst q4
        by_cases hz : zB f9 l9 = true
        · have kd := rdone_any lo c l9 f9 false wz hI9.out.rd (by omega)
          rw [hz] at kd
          replace kd : Hid (Calls Tryd.prog 95 #[.pointer (some ⟨c, 0, none⟩)] wz fun e w' => e = .returned (.int .i64 0) ∧ w' = wz) := kd
          have hIL := q5.il (fun j _ => bP_ok f j)
          by_cases hm : mayP (nP f) (tP f) (cP f) (bP f)
          · have km := may_any x1 x3 gv (cP f) (bP f) wz hIL (by omega) true (by rw [g2, g4]; simp [hm])
            rw [plA_row] at km
            replace km := hideit km
            have hyes : Hid (isPl 512 f) := ⟨rfl, hpre, q1, by rw [← q2, ← q3]; exact hz, hm⟩
            have hv1 : gv.oneCell' = true := by rw [hgv]; rfl
            go_upto_region 7 with (fail)
            refine wp_region_lit ?_
            refine wpList_run rfl (.bool true) (by simp [go_sem]) ?_
            simp only [zp0, zp1, zp2, zp3]
            refine wpList_run rfl (.bool false) (by simp [go_sem]) ?_
            simp only [zp0, zp1, zp2, zp3]
            refine wpList_run rfl (.bool false) (by simp [go_sem]) ?_
            simp only [zp0, zp1, zp2, zp3]
            refine wpList_runW rfl (.slice uo 512 ucp) (by simp [go_sem]) ?_
            simp only [zp0, zp1, zp2, zp3]
            refine wpList_runW rfl (.int .i64 512) (by simp [go_sem]) ?_
            simp only [zp0, zp1, zp2, zp3]
            refine wpList_runW rfl (.bool false) (by simp [go_sem]) ?_
            simp only [zp0, zp1, zp2, zp3]
            refine wpList_run rfl (.bool false) (by simp [go_sem]) ?_
            simp only [zp0, zp1, zp2, zp3]
            refine wpList_run rfl (.bool false) (by simp [go_sem]) ?_
            simp only [zp0, zp1, zp2, zp3]
            refine wpList_runW rfl (.pointer (some ⟨c, 0, none⟩)) (by simp [go_sem]) ?_
            simp only [zp0, zp1, zp2, zp3]
            refine wpList_callW rfl (by simp [go_sem]) ((kd.out).mono ?_)
            rintro e w10 ⟨rfl, hw10⟩
            refine ⟨_, rfl, ?_⟩
            simp only [zp0, zp1, zp2, zp3]
            rw [hw10]
            clear hw10
            refine wpList_runW rfl (.bool false) (by simp [go_sem]) ?_
            simp only [zp0, zp1, zp2, zp3]
            refine wpList_run rfl (.bool false) (by simp [go_sem]) ?_
            simp only [zp0, zp1, zp2, zp3]
            refine wpList_run rfl (.bool false) (by simp [go_sem]) ?_
            simp only [zp0, zp1, zp2, zp3]
            clear kd
            refine wpList_runW rfl (.agg (row 3 (plV x1 x3 gv)).toArray) (exec_loadR 76 (.tmp 6) rfl p 0 3 _ rfl hI9.out.row.range Tryd.underlying76 rfl info47) ?_
            simp only [zp0, zp1, zp2, zp3]
            refine wpList_callW rfl (by simp [go_sem]) ((km.out).mono ?_)
            rintro e wy ⟨rfl, hXy⟩
            refine ⟨_, rfl, ?_⟩
            simp only [zp0, zp1, zp2, zp3]
            refine wpList_runW rfl (.bool false) (by simp [go_sem]) ?_
            simp only [zp0, zp1, zp2, zp3]
            refine wpList_run rfl (.bool false) (by simp [go_sem]) ?_
            simp only [zp0, zp1, zp2, zp3]
            have hIy := hI9.out
            have hRp := hIy.row.carry hXy
            have hRr := hIy.res.carry hXy
            have hEy := Ext.trans hIy.ext hXy
            have hOy := q5.ext hXy
            go_upto_region 9 with (fail)
            refine wp_region_lit ?_
            refine wpList_run rfl (.agg (row 3 (plV x1 x3 gv)).toArray) (exec_loadR 76 (.tmp 6) rfl p 0 3 _ rfl hRp.range Tryd.underlying76 rfl info47) ?_
            simp only [zp0, zp1, zp2, zp3]
            refine wpList_store_mid rfl 76 (.tmp 2) (.tmp 45) rfl r0 0 (row 3 (plV x1 x3 gv)).toArray rfl rfl (by rw [row_size]; exact hRr.there) (by rw [row_size]; exact info47) (row_one (plV_one hv1)) ?_
            rw [show (row 3 (plV x1 x3 gv)).toArray.toList = row 3 (plV x1 x3 gv) from rfl]
            have hbt : But r0 wy (wy.setCells r0 0 (row 3 (plV x1 x3 gv))) := But.sets _ _ _ (But.refl _ _)
            have hRz := hideit (hRr.cells (g' := plV x1 x3 gv))
            have hEz : Hid (Ext w (wy.setCells r0 0 (row 3 (plV x1 x3 gv)))) := Below.trans hEy (But.below hbt hIy.o1 (Below.size hEy))
            have hOz : Hid (OwnB w.heap.size 3 gv (cP f) (fun i => .int .i64 (bP f i)) (wy.setCells r0 0 (row 3 (plV x1 x3 gv)))) := (hOy.but hbt fun hh => by
              have := (hOy.lt r0 hh).1
              have := hr8
              omega).weaken hw8
            generalize wy.setCells r0 0 (row 3 (plV x1 x3 gv)) = wx at *
            simp only [Act.put]
            refine wpList_run rfl (.bool true) (by simp [go_sem]) ?_
            simp only [zp0, zp1, zp2, zp3]
            clear hI9 hIy hRp hRr hEy hOy hbt km hXy q5 hIL
            go_wp2
            refine bodyPost_ret (ret_row2 Tryd.results82 rfl hRz.out Tryd.underlying76 rfl info47) rfl ?_
            exact plq_mk _ _ rfl ⟨hEz.out, .inl ⟨rfl, hyes.out, gv, by rw [← g2, ← g4]; rfl, hOz.out⟩⟩
          · have km := may_any x1 x3 gv (cP f) (bP f) wz hIL (by omega) false (by rw [g2, g4]; simp [hm])
            rw [plA_row] at km
            replace km := hideit km
            have hno : Hid (¬ isPl 512 f) := fun h => hm h.2.2.2.2
            go_upto_region 7 with (fail)
            refine wp_region_lit ?_
            refine wpList_run rfl (.bool true) (by simp [go_sem]) ?_
            simp only [zp0, zp1, zp2, zp3]
            refine wpList_run rfl (.bool false) (by simp [go_sem]) ?_
            simp only [zp0, zp1, zp2, zp3]
            refine wpList_run rfl (.bool false) (by simp [go_sem]) ?_
            simp only [zp0, zp1, zp2, zp3]
            refine wpList_runW rfl (.slice uo 512 ucp) (by simp [go_sem]) ?_
            simp only [zp0, zp1, zp2, zp3]
            refine wpList_runW rfl (.int .i64 512) (by simp [go_sem]) ?_
            simp only [zp0, zp1, zp2, zp3]
            refine wpList_runW rfl (.bool false) (by simp [go_sem]) ?_
            simp only [zp0, zp1, zp2, zp3]
            refine wpList_run rfl (.bool false) (by simp [go_sem]) ?_
            simp only [zp0, zp1, zp2, zp3]
            refine wpList_run rfl (.bool false) (by simp [go_sem]) ?_
            simp only [zp0, zp1, zp2, zp3]
            refine wpList_runW rfl (.pointer (some ⟨c, 0, none⟩)) (by simp [go_sem]) ?_
            simp only [zp0, zp1, zp2, zp3]
            refine wpList_callW rfl (by simp [go_sem]) ((kd.out).mono ?_)
            rintro e w10 ⟨rfl, hw10⟩
            refine ⟨_, rfl, ?_⟩
            simp only [zp0, zp1, zp2, zp3]
            rw [hw10]
            clear hw10
            refine wpList_runW rfl (.bool false) (by simp [go_sem]) ?_
            simp only [zp0, zp1, zp2, zp3]
            refine wpList_run rfl (.bool false) (by simp [go_sem]) ?_
            simp only [zp0, zp1, zp2, zp3]
            refine wpList_run rfl (.bool false) (by simp [go_sem]) ?_
            simp only [zp0, zp1, zp2, zp3]
            clear kd
            refine wpList_runW rfl (.agg (row 3 (plV x1 x3 gv)).toArray) (exec_loadR 76 (.tmp 6) rfl p 0 3 _ rfl hI9.out.row.range Tryd.underlying76 rfl info47) ?_
            simp only [zp0, zp1, zp2, zp3]
            refine wpList_callW rfl (by simp [go_sem]) ((km.out).mono ?_)
            rintro e wy ⟨rfl, hXy⟩
            refine ⟨_, rfl, ?_⟩
            simp only [zp0, zp1, zp2, zp3]
            refine wpList_runW rfl (.bool true) (by simp [go_sem]) ?_
            simp only [zp0, zp1, zp2, zp3]
            refine wpList_run rfl (.bool true) (by simp [go_sem]) ?_
            simp only [zp0, zp1, zp2, zp3]
            have hI9 : Hid (PI w r0 c p lo x1 x3 gv l9 f9 false wy) := { hI9.out with res := hI9.out.res.carry hXy, row := hI9.out.row.carry hXy, rd := hI9.out.rd.ext hXy, ext := Ext.trans hI9.out.ext hXy }
            clear km hXy q5 hIL
            have wz := wy
            go_upto_region 8 with (fail)
            refine wp_region_lit ?_
            refine wpList_run rfl (.agg (row 3 (plV 0#64 0#64 (.slice none 0 0))).toArray) (by simp [go_sem]; rfl) ?_
            simp only [zp0, zp1, zp2, zp3]
            refine wpList_store_mid rfl 76 (.tmp 2) (.tmp 44) rfl r0 0 (row 3 (plV 0#64 0#64 (.slice none 0 0))).toArray rfl rfl (by rw [row_size]; exact hI9.out.res.there) (by rw [row_size]; exact info47) (row_one (plV_one rfl)) ?_
            rw [show (row 3 (plV 0#64 0#64 (.slice none 0 0))).toArray.toList = row 3 (plV 0#64 0#64 (.slice none 0 0)) from rfl]
            have hRz := hideit (hI9.out.res.cells (g' := plV 0#64 0#64 (.slice none 0 0)))
            have hEz : Hid (Ext w (wy.setCells r0 0 (row 3 (plV 0#64 0#64 (.slice none 0 0))))) := Below.trans hI9.out.ext (But.below (But.sets _ _ _ (But.refl _ _)) hI9.out.o1 (Below.size hI9.out.ext))
            generalize wy.setCells r0 0 (row 3 (plV 0#64 0#64 (.slice none 0 0))) = wv at *
            simp only [Act.put]
            refine wpList_run rfl (.bool false) (by simp [go_sem]) ?_
            simp only [zp0, zp1, zp2, zp3]
            clear hI9
            go_wp2
            refine bodyPost_ret (ret_row2 Tryd.results82 rfl hRz.out Tryd.underlying76 rfl info47) rfl ?_
            exact plq_mk _ _ rfl ⟨hEz.out, .inr ⟨rfl, hno.out, rfl⟩⟩
        · have kd := rdone_any lo c l9 f9 false wz hI9.out.rd (by omega)
          rw [show zB f9 l9 = false by simpa using hz] at kd
          replace kd : Hid (Calls Tryd.prog 95 #[.pointer (some ⟨c, 0, none⟩)] wz fun e w' => e = .returned (.int .i64 90) ∧ w' = wz) := kd
          have hno : Hid (¬ isPl 512 f) := fun h => hz (by rw [q2, q3]; exact h.2.2.2.1)
          clear q5
          go_upto_region 7 with (fail)
          refine wp_region_lit ?_
          refine wpList_run rfl (.bool true) (by simp [go_sem]) ?_
          simp only [zp0, zp1, zp2, zp3]
          refine wpList_run rfl (.bool false) (by simp [go_sem]) ?_
          simp only [zp0, zp1, zp2, zp3]
          refine wpList_run rfl (.bool false) (by simp [go_sem]) ?_
          simp only [zp0, zp1, zp2, zp3]
          refine wpList_runW rfl (.slice uo 512 ucp) (by simp [go_sem]) ?_
          simp only [zp0, zp1, zp2, zp3]
          refine wpList_runW rfl (.int .i64 512) (by simp [go_sem]) ?_
          simp only [zp0, zp1, zp2, zp3]
          refine wpList_runW rfl (.bool false) (by simp [go_sem]) ?_
          simp only [zp0, zp1, zp2, zp3]
          refine wpList_run rfl (.bool false) (by simp [go_sem]) ?_
          simp only [zp0, zp1, zp2, zp3]
          refine wpList_run rfl (.bool false) (by simp [go_sem]) ?_
          simp only [zp0, zp1, zp2, zp3]
          refine wpList_runW rfl (.pointer (some ⟨c, 0, none⟩)) (by simp [go_sem]) ?_
          simp only [zp0, zp1, zp2, zp3]
          refine wpList_callW rfl (by simp [go_sem]) ((kd.out).mono ?_)
          rintro e w10 ⟨rfl, hw10⟩
          refine ⟨_, rfl, ?_⟩
          simp only [zp0, zp1, zp2, zp3]
          rw [hw10]
          clear hw10
          refine wpList_runW rfl (.bool true) (by simp [go_sem]) ?_
          simp only [zp0, zp1, zp2, zp3]
          refine wpList_run rfl (.bool true) (by simp [go_sem]) ?_
          simp only [zp0, zp1, zp2, zp3]
          refine wpList_run rfl (.bool true) (by simp [go_sem]) ?_
          simp only [zp0, zp1, zp2, zp3]
          refine wpList_skip rfl ?_
          simp only [zp0, zp1, zp2, zp3]
          refine wpList_skip rfl ?_
          simp only [zp0, zp1, zp2, zp3]
          refine wpList_skip rfl ?_
          simp only [zp0, zp1, zp2, zp3]
          refine wpList_run rfl (.bool true) (by simp [go_sem]) ?_
          simp only [zp0, zp1, zp2, zp3]
          clear kd
          go_upto_region 8 with (fail)
          refine wp_region_lit ?_
          refine wpList_run rfl (.agg (row 3 (plV 0#64 0#64 (.slice none 0 0))).toArray) (by simp [go_sem]; rfl) ?_
          simp only [zp0, zp1, zp2, zp3]
          refine wpList_store_mid rfl 76 (.tmp 2) (.tmp 44) rfl r0 0 (row 3 (plV 0#64 0#64 (.slice none 0 0))).toArray rfl rfl (by rw [row_size]; exact hI9.out.res.there) (by rw [row_size]; exact info47) (row_one (plV_one rfl)) ?_
          rw [show (row 3 (plV 0#64 0#64 (.slice none 0 0))).toArray.toList = row 3 (plV 0#64 0#64 (.slice none 0 0)) from rfl]
          have hRz := hideit (hI9.out.res.cells (g' := plV 0#64 0#64 (.slice none 0 0)))
          have hEz : Hid (Ext w (wz.setCells r0 0 (row 3 (plV 0#64 0#64 (.slice none 0 0))))) := Below.trans hI9.out.ext (But.below (But.sets _ _ _ (But.refl _ _)) hI9.out.o1 (Below.size hI9.out.ext))
          generalize wz.setCells r0 0 (row 3 (plV 0#64 0#64 (.slice none 0 0))) = wy at *
          simp only [Act.put]
          refine wpList_run rfl (.bool false) (by simp [go_sem]) ?_
          simp only [zp0, zp1, zp2, zp3]
          clear hI9
          go_wp2
          refine bodyPost_ret (ret_row2 Tryd.results82 rfl hRz.out Tryd.underlying76 rfl info47) rfl ?_
          exact plq_mk _ _ rfl ⟨hEz.out, .inr ⟨rfl, hno.out, rfl⟩⟩
      · subst q4
        have kd := hideit (rdone_bad hI9.out.rd)
        have hno : Hid (¬ isPl 512 f) := fun h => q1 h.2.2.1
        clear g1 g2 g3 g4 hgv q1 hpre hall
        go_upto_region 7 with (fail)
        refine wp_region_lit ?_
        refine wpList_run rfl (.bool true) (by simp [go_sem]) ?_
        simp only [zp0, zp1, zp2, zp3]
        refine wpList_run rfl (.bool false) (by simp [go_sem]) ?_
        simp only [zp0, zp1, zp2, zp3]
        refine wpList_run rfl (.bool false) (by simp [go_sem]) ?_
        simp only [zp0, zp1, zp2, zp3]
        refine wpList_runW rfl (.slice uo 512 ucp) (by simp [go_sem]) ?_
        simp only [zp0, zp1, zp2, zp3]
        refine wpList_runW rfl (.int .i64 512) (by simp [go_sem]) ?_
        simp only [zp0, zp1, zp2, zp3]
        refine wpList_runW rfl (.bool false) (by simp [go_sem]) ?_
        simp only [zp0, zp1, zp2, zp3]
        refine wpList_run rfl (.bool false) (by simp [go_sem]) ?_
        simp only [zp0, zp1, zp2, zp3]
        refine wpList_run rfl (.bool false) (by simp [go_sem]) ?_
        simp only [zp0, zp1, zp2, zp3]
        refine wpList_runW rfl (.pointer (some ⟨c, 0, none⟩)) (by simp [go_sem]) ?_
        simp only [zp0, zp1, zp2, zp3]
        refine wpList_callW rfl (by simp [go_sem]) ((kd.out).mono ?_)
        rintro e w10 ⟨rfl, hw10⟩
        refine ⟨_, rfl, ?_⟩
        simp only [zp0, zp1, zp2, zp3]
        rw [hw10]
        clear hw10
        refine wpList_runW rfl (.bool true) (by simp [go_sem]) ?_
        simp only [zp0, zp1, zp2, zp3]
        refine wpList_run rfl (.bool true) (by simp [go_sem]) ?_
        simp only [zp0, zp1, zp2, zp3]
        refine wpList_run rfl (.bool true) (by simp [go_sem]) ?_
        simp only [zp0, zp1, zp2, zp3]
        refine wpList_skip rfl ?_
        simp only [zp0, zp1, zp2, zp3]
        refine wpList_skip rfl ?_
        simp only [zp0, zp1, zp2, zp3]
        refine wpList_skip rfl ?_
        simp only [zp0, zp1, zp2, zp3]
        refine wpList_run rfl (.bool true) (by simp [go_sem]) ?_
        simp only [zp0, zp1, zp2, zp3]
        clear kd
        go_upto_region 8 with (fail)
        refine wp_region_lit ?_
        refine wpList_run rfl (.agg (row 3 (plV 0#64 0#64 (.slice none 0 0))).toArray) (by simp [go_sem]; rfl) ?_
        simp only [zp0, zp1, zp2, zp3]
        refine wpList_store_mid rfl 76 (.tmp 2) (.tmp 44) rfl r0 0 (row 3 (plV 0#64 0#64 (.slice none 0 0))).toArray rfl rfl (by rw [row_size]; exact hI9.out.res.there) (by rw [row_size]; exact info47) (row_one (plV_one rfl)) ?_
        rw [show (row 3 (plV 0#64 0#64 (.slice none 0 0))).toArray.toList = row 3 (plV 0#64 0#64 (.slice none 0 0)) from rfl]
        have hRz := hideit (hI9.out.res.cells (g' := plV 0#64 0#64 (.slice none 0 0)))
        have hEz : Hid (Ext w (wz.setCells r0 0 (row 3 (plV 0#64 0#64 (.slice none 0 0))))) := Below.trans hI9.out.ext (But.below (But.sets _ _ _ (But.refl _ _)) hI9.out.o1 (Below.size hI9.out.ext))
        generalize wz.setCells r0 0 (row 3 (plV 0#64 0#64 (.slice none 0 0))) = wy at *
        simp only [Act.put]
        refine wpList_run rfl (.bool false) (by simp [go_sem]) ?_
        simp only [zp0, zp1, zp2, zp3]
        clear hI9
        go_wp2
        refine bodyPost_ret (ret_row2 Tryd.results82 rfl hRz.out Tryd.underlying76 rfl info47) rfl ?_
        exact plq_mk _ _ rfl ⟨hEz.out, .inr ⟨rfl, hno.out, rfl⟩⟩
    · have hno : Hid (¬ isPl l f) := fun h => h5 h.1
      have i5 : ¬ (l : Int) = 512 := by omega
      clear hall hgv
      go_upto_region 7 with (fail)
      refine wp_region_lit ?_
      refine wpList_run rfl (.bool true) (by simp [go_sem]) ?_
      simp only [zp0, zp1, zp2, zp3]
      refine wpList_run rfl (.bool false) (by simp [go_sem]) ?_
      simp only [zp0, zp1, zp2, zp3]
      refine wpList_run rfl (.bool false) (by simp [go_sem]) ?_
      simp only [zp0, zp1, zp2, zp3]
      refine wpList_runW rfl (.slice uo l ucp) (by simp [go_sem]) ?_
      simp only [zp0, zp1, zp2, zp3]
      refine wpList_runW rfl (.int .i64 (l : Int)) (by simp [go_sem]) ?_
      simp only [zp0, zp1, zp2, zp3]
      refine wpList_runW rfl (.bool true) (by simp [go_sem, i5]) ?_
      simp only [zp0, zp1, zp2, zp3]
      refine wpList_run rfl (.bool true) (by simp [go_sem]) ?_
      simp only [zp0, zp1, zp2, zp3]
      refine wpList_run rfl (.bool true) (by simp [go_sem]) ?_
      simp only [zp0, zp1, zp2, zp3]
      refine wpList_skip rfl ?_
      simp only [zp0, zp1, zp2, zp3]
      refine wpList_skip rfl ?_
      simp only [zp0, zp1, zp2, zp3]
      refine wpList_skip rfl ?_
      simp only [zp0, zp1, zp2, zp3]
      refine wpList_run rfl (.bool true) (by simp [go_sem]) ?_
      simp only [zp0, zp1, zp2, zp3]
      refine wpList_run rfl (.bool true) (by simp [go_sem]) ?_
      simp only [zp0, zp1, zp2, zp3]
      refine wpList_skip rfl ?_
      simp only [zp0, zp1, zp2, zp3]
      refine wpList_skip rfl ?_
      simp only [zp0, zp1, zp2, zp3]
      refine wpList_skip rfl ?_
      simp only [zp0, zp1, zp2, zp3]
      refine wpList_run rfl (.bool true) (by simp [go_sem]) ?_
      simp only [zp0, zp1, zp2, zp3]
      go_upto_region 8 with (fail)
      refine wp_region_lit ?_
      refine wpList_run rfl (.agg (row 3 (plV 0#64 0#64 (.slice none 0 0))).toArray) (by simp [go_sem]; rfl) ?_
      simp only [zp0, zp1, zp2, zp3]
      refine wpList_store_mid rfl 76 (.tmp 2) (.tmp 44) rfl r0 0 (row 3 (plV 0#64 0#64 (.slice none 0 0))).toArray rfl rfl (by rw [row_size]; exact hI9.out.res.there) (by rw [row_size]; exact info47) (row_one (plV_one rfl)) ?_
      rw [show (row 3 (plV 0#64 0#64 (.slice none 0 0))).toArray.toList = row 3 (plV 0#64 0#64 (.slice none 0 0)) from rfl]
      have hRz := hideit (hI9.out.res.cells (g' := plV 0#64 0#64 (.slice none 0 0)))
      have hEz : Hid (Ext w (wz.setCells r0 0 (row 3 (plV 0#64 0#64 (.slice none 0 0))))) := Below.trans hI9.out.ext (But.below (But.sets _ _ _ (But.refl _ _)) hI9.out.o1 (Below.size hI9.out.ext))
      generalize wz.setCells r0 0 (row 3 (plV 0#64 0#64 (.slice none 0 0))) = wy at *
      simp only [Act.put]
      refine wpList_run rfl (.bool false) (by simp [go_sem]) ?_
      simp only [zp0, zp1, zp2, zp3]
      clear hI9
      go_wp2
      refine bodyPost_ret (ret_row2 Tryd.results82 rfl hRz.out Tryd.underlying76 rfl info47) rfl ?_
      exact plq_mk _ _ rfl ⟨hEz.out, .inr ⟨rfl, hno.out, rfl⟩⟩
  · have hno : Hid (¬ isPl l f) := fun h => hnb1 ((hall.out h.1).1.2 h.2.1)
    obtain rfl : nb = false := by
      cases nb with
      | false => rfl
      | true => exact absurd rfl hnb1
    clear hall hgv hnb1
    go_upto_region 7 with (fail)
    refine wp_region_lit ?_
    refine wpList_run rfl (.bool false) (by simp [go_sem]) ?_
    simp only [zp0, zp1, zp2, zp3]
    refine wpList_run rfl (.bool true) (by simp [go_sem]) ?_
    simp only [zp0, zp1, zp2, zp3]
    refine wpList_run rfl (.bool true) (by simp [go_sem]) ?_
    simp only [zp0, zp1, zp2, zp3]
    refine wpList_skip rfl ?_
    simp only [zp0, zp1, zp2, zp3]
    refine wpList_skip rfl ?_
    simp only [zp0, zp1, zp2, zp3]
    refine wpList_skip rfl ?_
    simp only [zp0, zp1, zp2, zp3]
    refine wpList_run rfl (.bool true) (by simp [go_sem]) ?_
    simp only [zp0, zp1, zp2, zp3]
    refine wpList_run rfl (.bool true) (by simp [go_sem]) ?_
    simp only [zp0, zp1, zp2, zp3]
    refine wpList_skip rfl ?_
    simp only [zp0, zp1, zp2, zp3]
    refine wpList_skip rfl ?_
    simp only [zp0, zp1, zp2, zp3]
    refine wpList_skip rfl ?_
    simp only [zp0, zp1, zp2, zp3]
    refine wpList_run rfl (.bool true) (by simp [go_sem]) ?_
    simp only [zp0, zp1, zp2, zp3]
    refine wpList_run rfl (.bool true) (by simp [go_sem]) ?_
    simp only [zp0, zp1, zp2, zp3]
    refine wpList_skip rfl ?_
    simp only [zp0, zp1, zp2, zp3]
    refine wpList_skip rfl ?_
    simp only [zp0, zp1, zp2, zp3]
    refine wpList_skip rfl ?_
    simp only [zp0, zp1, zp2, zp3]
    refine wpList_run rfl (.bool true) (by simp [go_sem]) ?_
    simp only [zp0, zp1, zp2, zp3]
    go_upto_region 8 with (fail)
    refine wp_region_lit ?_
    refine wpList_run rfl (.agg (row 3 (plV 0#64 0#64 (.slice none 0 0))).toArray) (by simp [go_sem]; rfl) ?_
    simp only [zp0, zp1, zp2, zp3]
    refine wpList_store_mid rfl 76 (.tmp 2) (.tmp 44) rfl r0 0 (row 3 (plV 0#64 0#64 (.slice none 0 0))).toArray rfl rfl (by rw [row_size]; exact hI9.out.res.there) (by rw [row_size]; exact info47) (row_one (plV_one rfl)) ?_
    rw [show (row 3 (plV 0#64 0#64 (.slice none 0 0))).toArray.toList = row 3 (plV 0#64 0#64 (.slice none 0 0)) from rfl]
    have hRz := hideit (hI9.out.res.cells (g' := plV 0#64 0#64 (.slice none 0 0)))
    have hEz : Hid (Ext w (wz.setCells r0 0 (row 3 (plV 0#64 0#64 (.slice none 0 0))))) := Below.trans hI9.out.ext (But.below (But.sets _ _ _ (But.refl _ _)) hI9.out.o1 (Below.size hI9.out.ext))
    generalize wz.setCells r0 0 (row 3 (plV 0#64 0#64 (.slice none 0 0))) = wy at *
    simp only [Act.put]
    refine wpList_run rfl (.bool false) (by simp [go_sem]) ?_
    simp only [zp0, zp1, zp2, zp3]
    clear hI9
    go_wp2
    refine bodyPost_ret (ret_row2 Tryd.results82 rfl hRz.out Tryd.underlying76 rfl info47) rfl ?_
    exact plq_mk _ _ rfl ⟨hEz.out, .inr ⟨rfl, hno.out, rfl⟩⟩
end Go.Proofs.YtiakkclabgelfaaDoor
namespace Go.Proofs.YtiakkclabgelfaaDoor
set_option maxRecDepth 20000
open Go.RowKit Go.BigFrame
theorem results_tmp3 {fn : Func} {t u v : Tmp} (h : fn.results = #[.tmp t, .tmp u, .tmp v]) (tmps : Array Value) (P : Program) (w : World) : (results fn tmps).run P w = .ok (.tuple #[tmps.getD t undef, tmps.getD u undef, tmps.getD v undef]) w := by
  simp [results, h]
end Go.Proofs.YtiakkclabgelfaaDoor
