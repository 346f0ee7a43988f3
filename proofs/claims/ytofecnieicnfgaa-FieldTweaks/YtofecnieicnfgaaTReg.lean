/-
  The document's Times ahead of its loops: both tweaks lie as bits in blocks of their own, whatever order Go picks.
-/
import Derived.Test.YtofecnieicnfgaaTInv
namespace Go.Proofs.Ytofecnieicnfgaa
open Go.RowKit
/- the operations of 'x, y := Bits(a), Bits(b)' -/
def rtOp0 : Oper := ⟨some 13, .load 28 (.tmp 2), 28, "ref.go:93", #[], none⟩
def rtOp1 : Oper := ⟨some 14, .call { callee := .value (.func 29), args := #[.tmp 13], argTypes := #[28] }, 42, "ref.go:93", #[⟨0, .data⟩], none⟩
def rtOp2 : Oper := ⟨some 15, .load 28 (.tmp 3), 28, "ref.go:93", #[], none⟩
def rtOp3 : Oper := ⟨some 16, .call { callee := .value (.func 29), args := #[.tmp 15], argTypes := #[28] }, 42, "ref.go:93", #[⟨2, .data⟩, ⟨1, .chain⟩], none⟩
def rtOp4 : Oper := ⟨some 5, .alloc 42, 0, "ref.go:93", #[], none⟩
def rtOp5 : Oper := ⟨some 6, .alloc 42, 0, "ref.go:93", #[], none⟩
def rtOp6 : Oper := ⟨none, .store 42 (.tmp 5) (.tmp 14), 0, "ref.go:93", #[⟨4, .data⟩, ⟨1, .data⟩, ⟨3, .chain⟩, ⟨0, .phase⟩, ⟨1, .phase⟩, ⟨2, .textOnly .lateStores⟩, ⟨3, .textOnly .lateStoresUnsure⟩, ⟨4, .phase⟩, ⟨5, .phase⟩], none⟩
def rtOp7 : Oper := ⟨none, .store 42 (.tmp 6) (.tmp 16), 0, "ref.go:93", #[⟨5, .data⟩, ⟨3, .data⟩, ⟨6, .chain⟩, ⟨0, .phase⟩, ⟨1, .phase⟩, ⟨2, .phase⟩, ⟨3, .phase⟩, ⟨4, .phase⟩, ⟨5, .phase⟩, ⟨6, .phase⟩], none⟩
def rtOps : Array Oper := #[rtOp0, rtOp1, rtOp2, rtOp3, rtOp4, rtOp5, rtOp6, rtOp7]
set_option maxRecDepth 20000 in
theorem rtimes_region (a b : BitVec 128) (w W : World) (A0 : Act) (hA : A0.tmps.size = 95) (h2 : A0.eval (.tmp 2) = .pointer (some ⟨w.heap.size, 0, none⟩)) (h3 : A0.eval (.tmp 3) = .pointer (some ⟨w.heap.size + 1, 0, none⟩))
    (hWx : HalfAt w.heap.size a W) (hWy : HalfAt (w.heap.size + 1) b W) (hWk : TimesOk w.heap.size w W) (Q : Exit → Act → World → Prop)
    (hQ : ∀ m n A X, TimesCut w.heap.size w a b m n X → A.eval (.tmp 5) = .pointer (some ⟨m, 0, none⟩) → A.eval (.tmp 6) = .pointer (some ⟨n, 0, none⟩) → A.eval (.tmp 13) = halfV a → A.eval (.tmp 14) = rowV a → A.eval (.tmp 15) = halfV b → A.eval (.tmp 16) = rowV b →
      (∀ (s : Nat), s ≠ 5 → s ≠ 6 → s ≠ 13 → s ≠ 14 → s ≠ 15 → s ≠ 16 → A.eval (.tmp s) = A0.eval (.tmp s)) → A.tmps.size = A0.tmps.size → A.defers = A0.defers → Q .normal A X) :
    (Code.region 1 rtOps true).wp Try.prog Q A0 W := by
  refine wp_region_inv (I := TI w.heap.size w a b A0) (by kernel_rfl) ?h0 ?hs ?he
  case h0 =>
    exact ⟨rfl, fun _ _ _ _ _ _ _ => rfl, rfl, rfl, hWx, hWy, hWk.drew, (fun h => by cases h), (fun h => by cases h), (fun h => by cases h), (fun h => by cases h), ⟨0, 0, (fun h => by cases h), (fun h => by cases h), (fun h => by cases h)⟩, (fun h => by cases h), (fun h => by cases h)⟩
  case hs =>
      intro L A X i o hI ho hl hdeps
      have hlf : L.getD i false = false := by
        unfold Array.getD at hl ⊢
        split at hl
        · rename_i hlt
          rw [dif_pos hlt]; exact hl
        · cases hl
      have hcase : i = 0 ∨ i = 1 ∨ i = 2 ∨ i = 3 ∨ i = 4 ∨ i = 5 ∨ i = 6 ∨ i = 7 ∨ 8 ≤ i := by omega
      rcases hcase with rfl | rfl | rfl | rfl | rfl | rfl | rfl | rfl | h8
      · have ho' : some rtOp0 = some o := ho
        injection ho' with ho'
        subst ho'
        have hev : A.eval (.tmp 2) = .pointer (some ⟨w.heap.size, 0, none⟩) := (hI.frame 2 (by decide) (by decide) (by decide) (by decide) (by decide) (by decide)).trans h2
        refine wpOp_plain ho rfl (wp_load_mid 28 (.tmp 2) rfl (w.heap.size) 0 hev _ _ hI.hx.range Try.underlying28 rfl (by kernel_rfl) ?_)
        exact hI.val hA 0 13 _ X (Below.refl _ _) (.inl ⟨rfl, rfl, rfl⟩)
      · have ho' : some rtOp1 = some o := ho
        injection ho' with ho'
        subst ho'
        have e0 := hI.v0 (hdeps ⟨0, .data⟩ (by simp [rtOp1]) rfl)
        have e1 : A.tmps[13]?.getD undef = .agg #[.int .u64 ((lo a).toNat : Int), .int .u64 ((hi a).toNat : Int)] := by
          have e2 := e0
          simp only [Act.eval, halfV] at e2
          simpa using e2
        refine wpOp_plain ho rfl ?_
        unfold Oper.wp rtOp1
        go_simp
        refine (bits_any a X).mono ?_
        rintro e w' ⟨rfl, hb⟩
        exact hI.val hA 1 14 _ w' hb (.inr (.inl ⟨rfl, rfl, rfl⟩))
      · have ho' : some rtOp2 = some o := ho
        injection ho' with ho'
        subst ho'
        have hev : A.eval (.tmp 3) = .pointer (some ⟨w.heap.size + 1, 0, none⟩) := (hI.frame 3 (by decide) (by decide) (by decide) (by decide) (by decide) (by decide)).trans h3
        refine wpOp_plain ho rfl (wp_load_mid 28 (.tmp 3) rfl (w.heap.size + 1) 0 hev _ _ hI.hy.range Try.underlying28 rfl (by kernel_rfl) ?_)
        exact hI.val hA 2 15 _ X (Below.refl _ _) (.inr (.inr (.inl ⟨rfl, rfl, rfl⟩)))
      · have ho' : some rtOp3 = some o := ho
        injection ho' with ho'
        subst ho'
        have e0 := hI.v2 (hdeps ⟨2, .data⟩ (by simp [rtOp3]) rfl)
        have e1 : A.tmps[15]?.getD undef = .agg #[.int .u64 ((lo b).toNat : Int), .int .u64 ((hi b).toNat : Int)] := by
          have e2 := e0
          simp only [Act.eval, halfV] at e2
          simpa using e2
        refine wpOp_plain ho rfl ?_
        unfold Oper.wp rtOp3
        go_simp
        refine (bits_any b X).mono ?_
        rintro e w' ⟨rfl, hb⟩
        exact hI.val hA 3 16 _ w' hb (.inr (.inr (.inr ⟨rfl, rfl, rfl⟩)))
      · have ho' : some rtOp4 = some o := ho
        injection ho' with ho'
        subst ho'
        refine wpOp_plain ho rfl ?_
        have hzx := zero42 X
        unfold Oper.wp rtOp4
        go_simp
        exact hI.make hA 4 5 (.inl ⟨rfl, rfl⟩) hlf
      · have ho' : some rtOp5 = some o := ho
        injection ho' with ho'
        subst ho'
        refine wpOp_plain ho rfl ?_
        have hzx := zero42 X
        unfold Oper.wp rtOp5
        go_simp
        exact hI.make hA 5 6 (.inr ⟨rfl, rfl⟩) hlf
      · have ho' : some rtOp6 = some o := ho
        injection ho' with ho'
        subst ho'
        have l4 := hdeps ⟨4, .data⟩ (by simp [rtOp6]) rfl
        have e0 := hI.v1 (hdeps ⟨1, .data⟩ (by simp [rtOp6]) rfl)
        obtain ⟨m, n, r1, r2, r3⟩ := hI.rows
        obtain ⟨q1, q2, q3⟩ := r1 l4
        refine wpOp_plain ho rfl (wp_store_mid 42 (.tmp 5) (.tmp 14) rfl m 0 (row 128 (bv (tb a))).toArray q1 e0 (by rw [row_size]; exact q3.there) (by rw [row_size]; exact info42) (row_one fun _ _ => rfl) ?_)
        exact hI.store6 l4 _ rfl _ q1
      · have ho' : some rtOp7 = some o := ho
        injection ho' with ho'
        subst ho'
        have l4 := hdeps ⟨5, .data⟩ (by simp [rtOp7]) rfl
        have e0 := hI.v3 (hdeps ⟨3, .data⟩ (by simp [rtOp7]) rfl)
        obtain ⟨m, n, r1, r2, r3⟩ := hI.rows
        obtain ⟨q1, q2, q3⟩ := r2 l4
        refine wpOp_plain ho rfl (wp_store_mid 42 (.tmp 6) (.tmp 16) rfl n 0 (row 128 (bv (tb b))).toArray q1 e0 (by rw [row_size]; exact q3.there) (by rw [row_size]; exact info42) (row_one fun _ _ => rfl) ?_)
        exact hI.store7 l4 _ rfl _ q1
      · have h9 := (Array.getElem?_eq_some_iff.1 ho).1
        simp [rtOps] at h9
        omega
  case he =>
    intro L A X hI hr
    have hno : ∀ j o, rtOps[j]? = some o → (∀ e ∈ o.after, Region.binds .any e = true → L.getD e.on false = true) → j < 8 → L.getD j false = true := by
      intro j o ho hd hj
      cases hjl : L.getD j false with
      | true => rfl
      | false =>
        have hlt : j < L.size := by rw [hI.size]; exact hj
        have hjt : L.getD j true = false := by
          unfold Array.getD at hjl ⊢
          rw [dif_pos hlt] at hjl ⊢
          exact hjl
        have := mem_ready.2 ⟨hjt, o, ho, hd⟩
        rw [hr] at this
        cases this
    have l0 := hno 0 rtOp0 rfl (fun e he _ => by simp [rtOp0] at he) (by decide)
    have l4 := hno 4 rtOp4 rfl (fun e he _ => by simp [rtOp4] at he) (by decide)
    have l5 := hno 5 rtOp5 rfl (fun e he _ => by simp [rtOp5] at he) (by decide)
    have l2 := hno 2 rtOp2 rfl (fun e he _ => by simp [rtOp2] at he) (by decide)
    have l1 := hno 1 rtOp1 rfl (fun e he _ => by simp [rtOp1] at he; subst he; exact l0) (by decide)
    have l3 := hno 3 rtOp3 rfl (fun e he _ => by simp [rtOp3] at he; rcases he with rfl | rfl <;> assumption) (by decide)
    have l6 := hno 6 rtOp6 rfl (fun e he _ => by simp [rtOp6] at he; rcases he with rfl | rfl | rfl | rfl | rfl | rfl | rfl | rfl | rfl <;> assumption) (by decide)
    have l7 := hno 7 rtOp7 rfl (fun e he _ => by simp [rtOp7] at he; rcases he with rfl | rfl | rfl | rfl | rfl | rfl | rfl | rfl | rfl | rfl <;> assumption) (by decide)
    obtain ⟨m, n, r1, r2, r3⟩ := hI.rows
    obtain ⟨q1, q2, q3⟩ := r1 l4
    obtain ⟨s1, s2, s3⟩ := r2 l5
    rw [l6] at q3
    rw [l7] at s3
    exact hQ m n A X ⟨q3, s3, hI.ok, q2, s2, r3 l4 l5⟩ q1 s1 (hI.v0 l0) (hI.v1 l1) (hI.v2 l2) (hI.v3 l3) hI.frame hI.tsize hI.defers
end Go.Proofs.Ytofecnieicnfgaa
