/-
  A journal on its disk: steps in order, and what goes on behind a transaction. Redos that are of the area itself, or of a block that there is not.
-/
import Derived.Test.YtiakkclabgelfaaDoorQc1
import Derived.Test.YtiakkclabgelfaaDoorQc42
namespace Go.Proofs.YtiakkclabgelfaaDoor
open Go.RowKit Go.BigFrame Go.Maps
set_option linter.unusedVariables false
set_option maxRecDepth 20000
structure JR (j p fi co : Nat) (nu : BitVec 64) (us : Nat) (bg : Bool) (F : Nat → Prop) (N : Nat) (A D : Nat → Nat → BitVec 8) (C : Nat) (W : World) : Prop where
  row : RowAt j 7 (jV p fi co nu us bg) W
  nb : ¬ IsB j W
  nf : ¬ F j
  dv : DV F p N A D C W
  co1 : 16 ≤ co
  co2 : co ≤ 256
  ar : fi + co ≤ N
theorem isB_keep {F : Nat → Prop} {i : Nat} {X W : World} (h : ¬ IsB i X) (hi : i < X.heap.size) (k : Keeps F X W) (hn : ¬ F i) : ¬ IsB i W := fun e => h (e.back k hi hn)
theorem JR.ext {j p fi co us N C : Nat} {nu : BitVec 64} {bg : Bool} {F : Nat → Prop} {A D : Nat → Nat → BitVec 8} {X W : World} (h : JR j p fi co nu us bg F N A D C X) (k : Ext X W) : JR j p fi co nu us bg F N A D C W :=
  ⟨h.row.carry k, isB_keep h.nb h.row.2.2 (Keeps.of_ext (F := fun _ => False) k) (fun e => e), h.nf, h.dv.ext k, h.co1, h.co2, h.ar⟩
theorem isB_set {j o i : Nat} {v : Value} {W : World} (h : ¬ IsB i W) : ¬ IsB i (W.setCell ⟨j, o, none⟩ v) := fun e => h (IsB.unset e)
theorem JR.set {j p fi co us us' N C o : Nat} {nu nu' : BitVec 64} {bg bg' : Bool} {F : Nat → Prop} {A D : Nat → Nat → BitVec 8} {X : World} (h : JR j p fi co nu us bg F N A D C X) (v : Value) (hv : ∀ i, i < 7 → (if i = o then v else jV p fi co nu us bg i) = jV p fi co nu' us' bg' i) : JR j p fi co nu' us' bg' F N A D C (X.setCell ⟨j, o, none⟩ v) :=
  ⟨(h.row.set o v).congr hv, isB_set h.nb, h.nf, h.dv.keep (G := fun i => i = j) (Keeps.setCell (F := fun i => i = j) (b := j) (Keeps.refl _ _) (.inl rfl) v) (fun i hi e => h.nf (e ▸ hi)) (fun i e => e ▸ h.nb), h.co1, h.co2, h.ar⟩
theorem fl_any {p N C : Nat} {F : Nat → Prop} {A D : Nat → Nat → BitVec 8} {x w : World} (h : DK F p N A D C x w) (hC : C ≤ 4398046511104) : Calls Tryd.prog 19 (#[.pointer (some ⟨p, 0, none⟩)] ++ #[]) w fun e w' => e = .returned (.int .i64 0) ∧ DK F p N D D C x w' := by
  obtain ⟨F', h1, h2, h3⟩ := h
  exact (dv_flush h1 hC).mono fun e w' ⟨q1, q2, q3⟩ => ⟨q1, DK.step h2 h3 ⟨F', q2, q3, fun b hb => .inl hb⟩⟩
theorem ino_ok (p N k lb : Nat) (F : Nat → Prop) (AA DD : Nat → Nat → Nat → BitVec 8) (CC : Nat → Nat) (g : Nat → FuncId) (bd fr : Nat → Array Value) (x : World) (hD : DV F p N (AA 0) (DD 0) (CC 0) x) (hL : RowAt lb k (fnV g bd fr) x) (hlb : ¬ F lb) (hk : k < 100)
    (hen : ∀ i, i < k → ∀ args X, (callFunc (g i) args).run Tryd.prog X = .ok (.enter (g i) args) X)
    (hst : ∀ i, i < k → ∀ W, DK F p N (AA i) (DD i) (CC i) x W → Calls Tryd.prog (g i) (bd i ++ fr i) W fun e w' => e = .returned (.int .i64 0) ∧ DK F p N (AA (i + 1)) (DD (i + 1)) (CC (i + 1)) x w') :
    Calls Tryd.prog 32 #[.slice (some ⟨lb, 0, none⟩) k k] x fun e w' => e = .returned (.int .i64 0) ∧ DK F p N (AA k) (DD k) (CC k) x w' := by
  refine (ino_any ⟨lb, 0, none⟩ k k (by omega) g bd fr x (fun i W => DK F p N (AA i) (DD i) (CC i) x W) (fun _ _ => False) (DK.refl hD) (fun i W hW q hq => ?_) hen (fun i hi W hW => ?_)).mono ?_
  · obtain ⟨F', _, kk, _⟩ := hW
    rw [addr0]
    exact (hL.keep kk hlb).1 q hq
  · exact (hst i hi W hW).mono fun e w' ⟨q1, q2⟩ => ⟨0, q1, fun _ => q2, fun h => absurd rfl h⟩
  · rintro e w' ⟨c', q1, q2, q3⟩
    by_cases h0 : c' = 0
    · subst h0
      exact ⟨q1, q2 rfl⟩
    · exact (q3 h0).elim
theorem j6same {p fi co us : Nat} {nu : BitVec 64} {bg : Bool} (i : Nat) (h : i < 7) : (if i = 6 then Value.bool false else jV p fi co nu us bg i) = jV p fi co nu us bg i := by
  unfold jV
  rcases (by omega : i = 0 ∨ i = 1 ∨ i = 2 ∨ i = 3 ∨ i = 4 ∨ i = 5 ∨ i = 6) with rfl | rfl | rfl | rfl | rfl | rfl | rfl <;> rfl
set_option maxRecDepth 20000 in
set_option maxHeartbeats 4000000 in
theorem jdo_ok (j p fi co : Nat) (nu : BitVec 64) (us : Nat) (bg : Bool) (N k lb : Nat) (F : Nat → Prop) (A D : Nat → Nat → BitVec 8) (C : Nat) (AA DD : Nat → Nat → Nat → BitVec 8) (CC : Nat → Nat) (g : Nat → FuncId) (bd fr : Nat → Array Value) (x : World) (hJ : JR j p fi co nu us bg F N A D C x) (hD : DV F p N (AA 0) (DD 0) (CC 0) x) (hL : RowAt lb k (fnV g bd fr) x) (hlb : ¬ F lb) (hk : k < 100)
    (hen : ∀ i, i < k → ∀ args X, (callFunc (g i) args).run Tryd.prog X = .ok (.enter (g i) args) X)
    (hst : ∀ i, i < k → ∀ W, DK F p N (AA i) (DD i) (CC i) x W → Calls Tryd.prog (g i) (bd i ++ fr i) W fun e w' => e = .returned (.int .i64 0) ∧ DK F p N (AA (i + 1)) (DD (i + 1)) (CC (i + 1)) x w') :
    Calls Tryd.prog 25 #[.pointer (some ⟨j, 0, none⟩), .slice (some ⟨lb, 0, none⟩) k k] x fun e w' => e = .returned (.int .i64 0) ∧ ∃ F', JR j p fi co nu us bg F' N (AA k) (DD k) (CC k) w' ∧ Keeps (fun i => F i ∨ i = j) x w' ∧ ∀ b, F' b → F b ∨ x.heap.size ≤ b := by
  replace hJ := hideit hJ
  have kk := hideit (ino_ok p N k lb F AA DD CC g bd fr x hD hL hlb hk hen hst)
  clear hst hL
  go_enter Tryd.func25, Tryd.ntmps25
  go_upto_region 1 with (fail)
  refine wp_region_lit ?_
  refine xm [some (.slice (some ⟨lb, 0, none⟩) k k)] (by kernel_rfl) (by simp [xr, go_sem]) ?_
  simp only [xw, p0, p1, p2, p3]
  refine wpList_call rfl (by simp [go_sem]) ((kk.out).mono ?_)
  rintro e y ⟨rfl, hQ⟩
  refine ⟨_, rfl, ?_⟩
  simp only [zp0, zp1, zp2, zp3]
  obtain ⟨F', q2, q3, q4⟩ := hQ
  have hjF : ¬ F' j := fun e => by
    rcases q4 j e with h | h
    · exact hJ.out.nf h
    · have := hJ.out.row.2.2
      omega
  have hJy : Hid (JR j p fi co nu us bg F' N (AA k) (DD k) (CC k) y) := ⟨hJ.out.row.keep q3 hJ.out.nf, isB_keep hJ.out.nb hJ.out.row.2.2 q3 hJ.out.nf, hjF, q2, hJ.out.co1, hJ.out.co2, hJ.out.ar⟩
  replace q3 := hideit q3
  replace q4 := hideit q4
  clear q2 hjF
  refine xm [some (.int .i64 0)] (by kernel_rfl) (by simp [xr, go_sem]) ?_
  simp only [xw, p0, p1, p2, p3]
  go_upto_region 2 with (fail)
  refine wp_region_lit ?_
  refine xm [some (.pointer (some ⟨j, 0, none⟩)), some (.int .i64 0), some (.bool false), some (.pointer (some ⟨j, 0, none⟩)), some (.pointer (some ⟨j, 6, none⟩))] (by kernel_rfl) (by simp [xr, go_sem]) ?_
  simp only [xw, p0, p1, p2, p3]
  have M0 : y.cell? ⟨j, 6, none⟩ = some (.bool false) := hJy.out.row.1 6 (by decide)
  have M1 : y.frozen? ⟨j, 6, none⟩ = false := hJy.out.row.2.1 6 (by decide)
  have N0 := hideit (hJy.out.set (.bool false) j6same)
  have N1 : Hid (Keeps (fun i => F i ∨ i = j) x (y.setCell ⟨j, 6, none⟩ (.bool false))) := Keeps.setCell (q3.out.weak fun i hi => .inl hi) (.inl (.inr rfl)) _
  refine xst rfl (y.setCell ⟨j, 6, none⟩ (.bool false)) (by simp [go_sem, M0, M1]) ?_
  simp only [Act.put]
  generalize y.setCell ⟨j, 6, none⟩ (.bool false) = y9 at N0 N1 ⊢
  clear M0 M1 hJy q3
  go_upto_region 3 with (fail)
  refine wp_region_lit ?_
  refine xm [some (.int .i64 0), some (.int .i64 0)] (by kernel_rfl) (by simp [xr, go_sem]) ?_
  simp only [xw, p0, p1, p2, p3]
  go_wp2
  go_ret
  exact ⟨rfl, F', N0.out, N1.out, q4.out⟩
section
variable {p fi co us n : Nat} {nu nu' : BitVec 64} {bg : Bool}
theorem j4 (i : Nat) (h : i < 7) : (if i = 4 then Value.int .i64 ((us + n : Nat) : Int) else jV p fi co nu us bg i) = jV p fi co nu (us + n) bg i := by
  unfold jV
  rcases (by omega : i = 0 ∨ i = 1 ∨ i = 2 ∨ i = 3 ∨ i = 4 ∨ i = 5 ∨ i = 6) with rfl | rfl | rfl | rfl | rfl | rfl | rfl <;> rfl
theorem j3 (i : Nat) (h : i < 7) : (if i = 3 then Value.int .u64 (nu'.toNat : Int) else jV p fi co nu us bg i) = jV p fi co nu' us bg i := by
  unfold jV
  rcases (by omega : i = 0 ∨ i = 1 ∨ i = 2 ∨ i = 3 ∨ i = 4 ∨ i = 5 ∨ i = 6) with rfl | rfl | rfl | rfl | rfl | rfl | rfl <;> rfl
end
set_option maxRecDepth 20000 in
set_option maxHeartbeats 4000000 in
theorem jpass (j p fi co : Nat) (nu : BitVec 64) (us n : Nat) (bg : Bool) (N : Nat) (F : Nat → Prop) (A D : Nat → Nat → BitVec 8) (C : Nat) (w : World) (hJ : JR j p fi co nu us bg F N A D C w) (hu : us ≤ 100000) (hn : n ≤ 100000) : Calls Tryd.prog 27 #[.pointer (some ⟨j, 0, none⟩), .int .i64 (n : Int)] w fun e w' => e = .returned (.tuple #[]) ∧ JR j p fi co (nu + 1#64) (us + n) bg F N A D C w' ∧ Keeps (fun i => i = j) w w' := by
  have z1 : IntKind.i64.wrap ((us : Int) + (n : Int)) = ((us + n : Nat) : Int) := by rw [IntKind.wrap_i64]; omega
  have z2 : IntKind.u64.wrap ((nu.toNat : Int) + 1) = ((nu + 1#64).toNat : Int) := by
    rw [IntKind.wrap_u64, BitVec.toNat_add]
    show _ = (((nu.toNat + 1) % 2 ^ 64 : Nat) : Int)
    omega
  have hR := hideit hJ.row
  replace hJ := hideit hJ
  replace z1 := hideit z1
  replace z2 := hideit z2
  go_enter Tryd.func27, Tryd.ntmps27
  go_upto_region 0 with (fail)
  refine wp_region_lit ?_
  have m1 : w.cell? ⟨j, 4, none⟩ = some (.int .i64 (us : Int)) := hR.out.1 4 (by decide)
  refine xm [some (.pointer (some ⟨j, 0, none⟩)), some (.pointer (some ⟨j, 0, none⟩)), some (.pointer (some ⟨j, 4, none⟩)), some (.int .i64 (us : Int)), some (.int .i64 (n : Int)), some (.int .i64 ((us + n : Nat) : Int)), some (.pointer (some ⟨j, 0, none⟩)), some (.pointer (some ⟨j, 4, none⟩))] (by kernel_rfl) (by simp [xr, go_sem, m1, z1.out]) ?_
  simp only [xw, p0, p1, p2, p3]
  clear m1
  have M0 : w.cell? ⟨j, 4, none⟩ = some (.int .i64 (us : Int)) := hJ.out.row.1 4 (by decide)
  have M1 : w.frozen? ⟨j, 4, none⟩ = false := hJ.out.row.2.1 4 (by decide)
  have N0 : Hid (JR j p fi co nu (us + n) bg F N A D C (w.setCell ⟨j, 4, none⟩ (.int .i64 ((us + n : Nat) : Int)))) := hJ.out.set (.int .i64 ((us + n : Nat) : Int)) j4
  have N1 := hideit (Keeps.setCell (F := fun i => i = j) (b := j) (i := 4) (Keeps.refl _ w) (.inl rfl) (.int .i64 ((us + n : Nat) : Int)))
  refine xst rfl (w.setCell ⟨j, 4, none⟩ (.int .i64 ((us + n : Nat) : Int))) (by simp [go_sem, M0, M1]) ?_
  simp only [Act.put]
  generalize w.setCell ⟨j, 4, none⟩ (.int .i64 ((us + n : Nat) : Int)) = y1 at N0 N1 ⊢
  clear M0 M1 hJ hR
  have hJ := N0
  have hK := N1
  have hR := hideit hJ.out.row
  clear N0 N1
  go_upto_region 1 with (fail)
  refine wp_region_lit ?_
  have m2 : y1.cell? ⟨j, 3, none⟩ = some (.int .u64 (nu.toNat : Int)) := hR.out.1 3 (by decide)
  refine xm [some (.pointer (some ⟨j, 0, none⟩)), some (.pointer (some ⟨j, 0, none⟩)), some (.pointer (some ⟨j, 3, none⟩)), some (.int .u64 (nu.toNat : Int)), some (.int .u64 ((nu + 1#64).toNat : Int)), some (.pointer (some ⟨j, 0, none⟩)), some (.pointer (some ⟨j, 3, none⟩))] (by kernel_rfl) (by simp [xr, go_sem, m2, z2.out]) ?_
  simp only [xw, p0, p1, p2, p3]
  clear m2
  have M0 : y1.cell? ⟨j, 3, none⟩ = some (.int .u64 (nu.toNat : Int)) := hJ.out.row.1 3 (by decide)
  have M1 : y1.frozen? ⟨j, 3, none⟩ = false := hJ.out.row.2.1 3 (by decide)
  have N0 : Hid (JR j p fi co (nu + 1#64) (us + n) bg F N A D C (y1.setCell ⟨j, 3, none⟩ (.int .u64 ((nu + 1#64).toNat : Int)))) := hJ.out.set (.int .u64 ((nu + 1#64).toNat : Int)) j3
  have N1 := hideit (Keeps.setCell (F := fun i => i = j) (b := j) (i := 3) hK.out (.inl rfl) (.int .u64 ((nu + 1#64).toNat : Int)))
  refine xst rfl (y1.setCell ⟨j, 3, none⟩ (.int .u64 ((nu + 1#64).toNat : Int))) (by simp [go_sem, M0, M1]) ?_
  simp only [Act.put]
  generalize y1.setCell ⟨j, 3, none⟩ (.int .u64 ((nu + 1#64).toNat : Int)) = y2 at N0 N1 ⊢
  clear M0 M1 hJ hR
  have hJ := N0
  have hKb := N1
  have hR := hideit hJ.out.row
  clear N0 N1
  go_wp2
  exact bodyPost_end (v := .tuple #[]) (by simp [results, Tryd.results27]) rfl ⟨rfl, hJ.out, hKb.out⟩
end Go.Proofs.YtiakkclabgelfaaDoor
namespace Go.Proofs.YtiakkclabgelfaaDoor
open Go.RowKit Go.BigFrame Go.Maps
set_option linter.unusedVariables false
set_option maxRecDepth 20000
def fgB (fi co N : Nat) (b : Int) : Bool := decide (((fi : Int) ≤ b ∧ b < (fi : Int) + (co : Int)) ∨ b < 0 ∨ (N : Int) ≤ b)
def fgL (fi co N n : Nat) (bs : Nat → Int) : Prop := ∃ i, i < n ∧ fgB fi co N (bs i) = true
set_option maxRecDepth 20000 in
set_option maxHeartbeats 4000000 in
theorem fg1 (b : Int) (u : Value) (j p fi co : Nat) (nu : BitVec 64) (us : Nat) (bg : Bool) (F : Nat → Prop) (N : Nat) (A D : Nat → Nat → BitVec 8) (C : Nat) (w : World) (hJ : JR j p fi co nu us bg F N A D C w) (a1 : ¬ (fi : Int) ≤ b) (a3 : b < 0) : Calls Tryd.prog 24 #[.pointer (some ⟨j, 0, none⟩), .agg (row 2 (rdC (fun _ => b) (fun _ => u))).toArray] w fun e w' => e = .returned (.bool true) ∧ Ext w w' := by
  have hR := hideit hJ.row
  replace hJ := hideit hJ
  have q1 : IntKind.i64.wrap ((fi : Int) + (co : Int)) = (fi : Int) + (co : Int) := by have := hJ.out.ar; have := hJ.out.dv.n4; rw [IntKind.wrap_i64]; omega
  replace a1 := hideit a1
  replace a3 := hideit a3
  replace q1 := hideit q1
  have hE := hideit (Ext.refl w)
  go_enter Tryd.func24, Tryd.ntmps24
  go_upto_region 0 with (fail)
  refine wp_region_lit ?_
  have A0 := hideit (RowAt.new w 2 (rdC (fun _ => b) (fun _ => u)) 47)
  have XB : Ext w (w.alloc (.cells (row 2 (rdC (fun _ => b) (fun _ => u))).toArray 47)) := (Below.refl _ _).alloc (Nat.le_refl _) _
  have A1 := hideit (hR.out.carry XB)
  have AE := hideit (Ext.trans hE.out (XB))
  have AB := hideit (hE.out.size)
  have D0 : Hid (j ≠ w.heap.size) := Nat.ne_of_lt hR.out.2.2
  clear XB
  refine wpList_to rfl (.pointer (some ⟨w.heap.size, 0, none⟩)) (w.alloc (.cells (row 2 (rdC (fun _ => b) (fun _ => u))).toArray 47)) (by simp [go_sem]) ?_
  simp only [zp0, zp1, zp2, zp3]
  generalize w.alloc (.cells (row 2 (rdC (fun _ => b) (fun _ => u))).toArray 47) = x2 at A0 A1 AE ⊢
  obtain ⟨z1, ez1⟩ : ∃ b, b = w.heap.size := ⟨_, rfl⟩
  have ABz1 : Hid (w.heap.size ≤ z1) := by rw [ez1]; exact AB.out
  clear AB
  rw [← ez1] at A0 D0 ⊢
  clear ez1
  have Hz1 := A0
  clear A0
  replace hR := A1
  clear A1
  replace hE := AE
  clear AE
  have Dz1_0 := D0
  clear D0
  refine xm [some (.bool false)] (by kernel_rfl) (by simp [xr, go_sem]) ?_
  simp only [xw, p0, p1, p2, p3]
  replace hJ := hideit (hJ.out.ext hE.out)
  go_upto_region 1 with (fail)
  replace hR := hideit hR.out.drew
  replace Hz1 := hideit Hz1.out.drew
  replace hE := hideit (Ext.draw hE.out)
  refine wp_region_lad (fun X => Ext x2.drew X) [(false, 0), (false, 1), (false, 2), (false, 3), (false, 4), (false, 5), (false, 6), (false, 7), (false, 8), (false, 9), (false, 10), (false, 11), (false, 12), (false, 13), (false, 14), (false, 15), (false, 16), (false, 17), (false, 18), (false, 19), (false, 20), (false, 21)] (by kernel_rfl) (by kernel_rfl) (by decide +kernel) (by decide +kernel) (by decide +kernel) (by decide +kernel) (Ext.refl _) ?_
  refine wpX_f _ (.pointer (some ⟨z1, 0, none⟩)) rfl rfl (fun X _ => by simp [go_sem]) ?_
  simp only [List.getElem_toArray, List.getElem_cons_zero, Act.put, List.setIfInBounds_toArray, List.set_cons_zero, List.set_cons_succ]
  refine wpX_f _ (.int .i64 (b)) rfl rfl (fun X hX => by have m3 : X.cell? ⟨z1, 0, none⟩ = some (.int .i64 (b)) := (Hz1.out.carry hX).1 0 (by decide); simp [go_sem, m3]) ?_
  simp only [zp4, zp5, zp6, zp0, zp1, zp2, zp3]
  refine wpX_f _ (.pointer (some ⟨j, 0, none⟩)) rfl rfl (fun X _ => by simp [go_sem]) ?_
  simp only [zp4, zp5, zp6, zp0, zp1, zp2, zp3]
  refine wpX_f _ (.pointer (some ⟨j, 0, none⟩)) rfl rfl (fun X _ => by simp [go_sem]) ?_
  simp only [zp4, zp5, zp6, zp0, zp1, zp2, zp3]
  refine wpX_f _ (.pointer (some ⟨j, 1, none⟩)) rfl rfl (fun X _ => by simp [go_sem]) ?_
  simp only [zp4, zp5, zp6, zp0, zp1, zp2, zp3]
  refine wpX_f _ (.int .i64 (fi : Int)) rfl rfl (fun X hX => by have m4 : X.cell? ⟨j, 1, none⟩ = some (.int .i64 (fi : Int)) := (hR.out.carry hX).1 1 (by decide); simp [go_sem, m4]) ?_
  simp only [zp4, zp5, zp6, zp0, zp1, zp2, zp3]
  refine wpX_f _ (.bool false) rfl rfl (fun X _ => by simp [go_sem, a1.out]) ?_
  simp only [zp4, zp5, zp6, zp0, zp1, zp2, zp3]
  refine wpX_f _ (.bool false) rfl rfl (fun X _ => by simp [go_sem]) ?_
  simp only [zp4, zp5, zp6, zp0, zp1, zp2, zp3]
  refine wpX_fskip _ rfl rfl ?_
  simp only [zp4, zp5, zp6, zp0, zp1, zp2, zp3]
  refine wpX_fskip _ rfl rfl ?_
  simp only [zp4, zp5, zp6, zp0, zp1, zp2, zp3]
  refine wpX_fskip _ rfl rfl ?_
  simp only [zp4, zp5, zp6, zp0, zp1, zp2, zp3]
  refine wpX_fskip _ rfl rfl ?_
  simp only [zp4, zp5, zp6, zp0, zp1, zp2, zp3]
  refine wpX_fskip _ rfl rfl ?_
  simp only [zp4, zp5, zp6, zp0, zp1, zp2, zp3]
  refine wpX_fskip _ rfl rfl ?_
  simp only [zp4, zp5, zp6, zp0, zp1, zp2, zp3]
  refine wpX_fskip _ rfl rfl ?_
  simp only [zp4, zp5, zp6, zp0, zp1, zp2, zp3]
  refine wpX_fskip _ rfl rfl ?_
  simp only [zp4, zp5, zp6, zp0, zp1, zp2, zp3]
  refine wpX_fskip _ rfl rfl ?_
  simp only [zp4, zp5, zp6, zp0, zp1, zp2, zp3]
  refine wpX_fskip _ rfl rfl ?_
  simp only [zp4, zp5, zp6, zp0, zp1, zp2, zp3]
  refine wpX_fskip _ rfl rfl ?_
  simp only [zp4, zp5, zp6, zp0, zp1, zp2, zp3]
  refine wpX_fskip _ rfl rfl ?_
  simp only [zp4, zp5, zp6, zp0, zp1, zp2, zp3]
  refine wpX_f _ (.bool false) rfl rfl (fun X _ => by simp [go_sem]) ?_
  simp only [zp4, zp5, zp6, zp0, zp1, zp2, zp3]
  refine wpX_f _ (.bool false) rfl rfl (fun X _ => by simp [go_sem]) ?_
  simp only [zp4, zp5, zp6, zp0, zp1, zp2, zp3]
  refine wpX_nil ?_
  replace hJ := hideit (hJ.out.ext (Ext.draw (Ext.refl _)))
  go_upto_region 2 with (fail)
  replace hR := hideit hR.out.drew
  replace Hz1 := hideit Hz1.out.drew
  replace hE := hideit (Ext.draw hE.out)
  refine wp_region_lad (fun X => Ext x2.drew.drew X) [(false, 0), (false, 1), (false, 2), (false, 3), (false, 4), (false, 5), (false, 6), (false, 7), (false, 8), (false, 9), (false, 10), (false, 11), (false, 12), (true, 13), (false, 14), (false, 15), (false, 16)] (by kernel_rfl) (by kernel_rfl) (by decide +kernel) (by decide +kernel) (by decide +kernel) (by decide +kernel) (Ext.refl _) ?_
  refine wpX_f _ (.bool false) rfl rfl (fun X _ => by simp [go_sem]) ?_
  simp only [List.getElem_toArray, List.getElem_cons_zero, Act.put, List.setIfInBounds_toArray, List.set_cons_zero, List.set_cons_succ]
  refine wpX_f _ (.bool false) rfl rfl (fun X _ => by simp [go_sem]) ?_
  simp only [zp4, zp5, zp6, zp0, zp1, zp2, zp3]
  refine wpX_f _ (.pointer (some ⟨z1, 0, none⟩)) rfl rfl (fun X _ => by simp [go_sem]) ?_
  simp only [zp4, zp5, zp6, zp0, zp1, zp2, zp3]
  refine wpX_f _ (.int .i64 (b)) rfl rfl (fun X hX => by have m5 : X.cell? ⟨z1, 0, none⟩ = some (.int .i64 (b)) := (Hz1.out.carry hX).1 0 (by decide); simp [go_sem, m5]) ?_
  simp only [zp4, zp5, zp6, zp0, zp1, zp2, zp3]
  refine wpX_f _ (.bool true) rfl rfl (fun X _ => by simp [go_sem, a3.out]) ?_
  simp only [zp4, zp5, zp6, zp0, zp1, zp2, zp3]
  refine wpX_f _ (.bool true) rfl rfl (fun X _ => by simp [go_sem]) ?_
  simp only [zp4, zp5, zp6, zp0, zp1, zp2, zp3]
  refine wpX_f _ (.bool true) rfl rfl (fun X _ => by simp [go_sem]) ?_
  simp only [zp4, zp5, zp6, zp0, zp1, zp2, zp3]
  refine wpX_fskip _ rfl rfl ?_
  simp only [zp4, zp5, zp6, zp0, zp1, zp2, zp3]
  refine wpX_fskip _ rfl rfl ?_
  simp only [zp4, zp5, zp6, zp0, zp1, zp2, zp3]
  refine wpX_fskip _ rfl rfl ?_
  simp only [zp4, zp5, zp6, zp0, zp1, zp2, zp3]
  refine wpX_fskip _ rfl rfl ?_
  simp only [zp4, zp5, zp6, zp0, zp1, zp2, zp3]
  refine wpX_fskip _ rfl rfl ?_
  simp only [zp4, zp5, zp6, zp0, zp1, zp2, zp3]
  refine wpX_fskip _ rfl rfl ?_
  simp only [zp4, zp5, zp6, zp0, zp1, zp2, zp3]
  refine ⟨_, rfl, .inr ⟨rfl, fun X => Ext x2.drew.drew X, fun X hX => hX, Ext.refl _, ?_⟩⟩
  simp only [zp4, zp5, zp6, zp0, zp1, zp2, zp3]
  refine wpX_fskip _ rfl rfl ?_
  simp only [zp4, zp5, zp6, zp0, zp1, zp2, zp3]
  refine wpX_f _ (.bool true) rfl rfl (fun X _ => by simp [go_sem]) ?_
  simp only [zp4, zp5, zp6, zp0, zp1, zp2, zp3]
  refine wpX_f _ (.bool true) rfl rfl (fun X _ => by simp [go_sem]) ?_
  simp only [zp4, zp5, zp6, zp0, zp1, zp2, zp3]
  refine wpX_nil ?_
  go_wp2
  go_ret
  exact ⟨rfl, hE.out⟩
set_option maxRecDepth 20000 in
set_option maxHeartbeats 4000000 in
theorem fg2 (b : Int) (u : Value) (j p fi co : Nat) (nu : BitVec 64) (us : Nat) (bg : Bool) (F : Nat → Prop) (N : Nat) (A D : Nat → Nat → BitVec 8) (C : Nat) (w : World) (hJ : JR j p fi co nu us bg F N A D C w) (a1 : ¬ (fi : Int) ≤ b) (a3 : ¬ b < 0) (a4 : ¬ (N : Int) ≤ b) : Calls Tryd.prog 24 #[.pointer (some ⟨j, 0, none⟩), .agg (row 2 (rdC (fun _ => b) (fun _ => u))).toArray] w fun e w' => e = .returned (.bool false) ∧ Ext w w' := by
  have hR := hideit hJ.row
  replace hJ := hideit hJ
  have q1 : IntKind.i64.wrap ((fi : Int) + (co : Int)) = (fi : Int) + (co : Int) := by have := hJ.out.ar; have := hJ.out.dv.n4; rw [IntKind.wrap_i64]; omega
  replace a1 := hideit a1
  replace a3 := hideit a3
  replace a4 := hideit a4
  replace q1 := hideit q1
  have hE := hideit (Ext.refl w)
  go_enter Tryd.func24, Tryd.ntmps24
  go_upto_region 0 with (fail)
  refine wp_region_lit ?_
  have A0 := hideit (RowAt.new w 2 (rdC (fun _ => b) (fun _ => u)) 47)
  have XB : Ext w (w.alloc (.cells (row 2 (rdC (fun _ => b) (fun _ => u))).toArray 47)) := (Below.refl _ _).alloc (Nat.le_refl _) _
  have A1 := hideit (hR.out.carry XB)
  have AE := hideit (Ext.trans hE.out (XB))
  have AB := hideit (hE.out.size)
  have D0 : Hid (j ≠ w.heap.size) := Nat.ne_of_lt hR.out.2.2
  clear XB
  refine wpList_to rfl (.pointer (some ⟨w.heap.size, 0, none⟩)) (w.alloc (.cells (row 2 (rdC (fun _ => b) (fun _ => u))).toArray 47)) (by simp [go_sem]) ?_
  simp only [zp0, zp1, zp2, zp3]
  generalize w.alloc (.cells (row 2 (rdC (fun _ => b) (fun _ => u))).toArray 47) = x2 at A0 A1 AE ⊢
  obtain ⟨z1, ez1⟩ : ∃ b, b = w.heap.size := ⟨_, rfl⟩
  have ABz1 : Hid (w.heap.size ≤ z1) := by rw [ez1]; exact AB.out
  clear AB
  rw [← ez1] at A0 D0 ⊢
  clear ez1
  have Hz1 := A0
  clear A0
  replace hR := A1
  clear A1
  replace hE := AE
  clear AE
  have Dz1_0 := D0
  clear D0
  refine xm [some (.bool false)] (by kernel_rfl) (by simp [xr, go_sem]) ?_
  simp only [xw, p0, p1, p2, p3]
  replace hJ := hideit (hJ.out.ext hE.out)
  go_upto_region 1 with (fail)
  replace hR := hideit hR.out.drew
  replace Hz1 := hideit Hz1.out.drew
  replace hE := hideit (Ext.draw hE.out)
  refine wp_region_lad (fun X => Ext x2.drew X) [(false, 0), (false, 1), (false, 2), (false, 3), (false, 4), (false, 5), (false, 6), (false, 7), (false, 8), (false, 9), (false, 10), (false, 11), (false, 12), (false, 13), (false, 14), (false, 15), (false, 16), (false, 17), (false, 18), (false, 19), (false, 20), (false, 21)] (by kernel_rfl) (by kernel_rfl) (by decide +kernel) (by decide +kernel) (by decide +kernel) (by decide +kernel) (Ext.refl _) ?_
  refine wpX_f _ (.pointer (some ⟨z1, 0, none⟩)) rfl rfl (fun X _ => by simp [go_sem]) ?_
  simp only [List.getElem_toArray, List.getElem_cons_zero, Act.put, List.setIfInBounds_toArray, List.set_cons_zero, List.set_cons_succ]
  refine wpX_f _ (.int .i64 (b)) rfl rfl (fun X hX => by have m3 : X.cell? ⟨z1, 0, none⟩ = some (.int .i64 (b)) := (Hz1.out.carry hX).1 0 (by decide); simp [go_sem, m3]) ?_
  simp only [zp4, zp5, zp6, zp0, zp1, zp2, zp3]
  refine wpX_f _ (.pointer (some ⟨j, 0, none⟩)) rfl rfl (fun X _ => by simp [go_sem]) ?_
  simp only [zp4, zp5, zp6, zp0, zp1, zp2, zp3]
  refine wpX_f _ (.pointer (some ⟨j, 0, none⟩)) rfl rfl (fun X _ => by simp [go_sem]) ?_
  simp only [zp4, zp5, zp6, zp0, zp1, zp2, zp3]
  refine wpX_f _ (.pointer (some ⟨j, 1, none⟩)) rfl rfl (fun X _ => by simp [go_sem]) ?_
  simp only [zp4, zp5, zp6, zp0, zp1, zp2, zp3]
  refine wpX_f _ (.int .i64 (fi : Int)) rfl rfl (fun X hX => by have m4 : X.cell? ⟨j, 1, none⟩ = some (.int .i64 (fi : Int)) := (hR.out.carry hX).1 1 (by decide); simp [go_sem, m4]) ?_
  simp only [zp4, zp5, zp6, zp0, zp1, zp2, zp3]
  refine wpX_f _ (.bool false) rfl rfl (fun X _ => by simp [go_sem, a1.out]) ?_
  simp only [zp4, zp5, zp6, zp0, zp1, zp2, zp3]
  refine wpX_f _ (.bool false) rfl rfl (fun X _ => by simp [go_sem]) ?_
  simp only [zp4, zp5, zp6, zp0, zp1, zp2, zp3]
  refine wpX_fskip _ rfl rfl ?_
  simp only [zp4, zp5, zp6, zp0, zp1, zp2, zp3]
  refine wpX_fskip _ rfl rfl ?_
  simp only [zp4, zp5, zp6, zp0, zp1, zp2, zp3]
  refine wpX_fskip _ rfl rfl ?_
  simp only [zp4, zp5, zp6, zp0, zp1, zp2, zp3]
  refine wpX_fskip _ rfl rfl ?_
  simp only [zp4, zp5, zp6, zp0, zp1, zp2, zp3]
  refine wpX_fskip _ rfl rfl ?_
  simp only [zp4, zp5, zp6, zp0, zp1, zp2, zp3]
  refine wpX_fskip _ rfl rfl ?_
  simp only [zp4, zp5, zp6, zp0, zp1, zp2, zp3]
  refine wpX_fskip _ rfl rfl ?_
  simp only [zp4, zp5, zp6, zp0, zp1, zp2, zp3]
  refine wpX_fskip _ rfl rfl ?_
  simp only [zp4, zp5, zp6, zp0, zp1, zp2, zp3]
  refine wpX_fskip _ rfl rfl ?_
  simp only [zp4, zp5, zp6, zp0, zp1, zp2, zp3]
  refine wpX_fskip _ rfl rfl ?_
  simp only [zp4, zp5, zp6, zp0, zp1, zp2, zp3]
  refine wpX_fskip _ rfl rfl ?_
  simp only [zp4, zp5, zp6, zp0, zp1, zp2, zp3]
  refine wpX_fskip _ rfl rfl ?_
  simp only [zp4, zp5, zp6, zp0, zp1, zp2, zp3]
  refine wpX_f _ (.bool false) rfl rfl (fun X _ => by simp [go_sem]) ?_
  simp only [zp4, zp5, zp6, zp0, zp1, zp2, zp3]
  refine wpX_f _ (.bool false) rfl rfl (fun X _ => by simp [go_sem]) ?_
  simp only [zp4, zp5, zp6, zp0, zp1, zp2, zp3]
  refine wpX_nil ?_
  replace hJ := hideit (hJ.out.ext (Ext.draw (Ext.refl _)))
  go_upto_region 2 with (fail)
  replace hR := hideit hR.out.drew
  replace Hz1 := hideit Hz1.out.drew
  replace hE := hideit (Ext.draw hE.out)
  refine wp_region_lad (fun X => Ext x2.drew.drew X) [(false, 0), (false, 1), (false, 2), (false, 3), (false, 4), (false, 5), (false, 6), (false, 7), (false, 8), (false, 9), (false, 10), (false, 11), (false, 12), (true, 13), (false, 14), (false, 15), (false, 16)] (by kernel_rfl) (by kernel_rfl) (by decide +kernel) (by decide +kernel) (by decide +kernel) (by decide +kernel) (Ext.refl _) ?_
  refine wpX_f _ (.bool false) rfl rfl (fun X _ => by simp [go_sem]) ?_
  simp only [List.getElem_toArray, List.getElem_cons_zero, Act.put, List.setIfInBounds_toArray, List.set_cons_zero, List.set_cons_succ]
  refine wpX_f _ (.bool false) rfl rfl (fun X _ => by simp [go_sem]) ?_
  simp only [zp4, zp5, zp6, zp0, zp1, zp2, zp3]
  refine wpX_f _ (.pointer (some ⟨z1, 0, none⟩)) rfl rfl (fun X _ => by simp [go_sem]) ?_
  simp only [zp4, zp5, zp6, zp0, zp1, zp2, zp3]
  refine wpX_f _ (.int .i64 (b)) rfl rfl (fun X hX => by have m5 : X.cell? ⟨z1, 0, none⟩ = some (.int .i64 (b)) := (Hz1.out.carry hX).1 0 (by decide); simp [go_sem, m5]) ?_
  simp only [zp4, zp5, zp6, zp0, zp1, zp2, zp3]
  refine wpX_f _ (.bool false) rfl rfl (fun X _ => by simp [go_sem, a3.out]) ?_
  simp only [zp4, zp5, zp6, zp0, zp1, zp2, zp3]
  refine wpX_f _ (.bool false) rfl rfl (fun X _ => by simp [go_sem]) ?_
  simp only [zp4, zp5, zp6, zp0, zp1, zp2, zp3]
  refine wpX_f _ (.bool false) rfl rfl (fun X _ => by simp [go_sem]) ?_
  simp only [zp4, zp5, zp6, zp0, zp1, zp2, zp3]
  refine wpX_f _ (.pointer (some ⟨z1, 0, none⟩)) rfl rfl (fun X _ => by simp [go_sem]) ?_
  simp only [zp4, zp5, zp6, zp0, zp1, zp2, zp3]
  refine wpX_f _ (.int .i64 (b)) rfl rfl (fun X hX => by have m6 : X.cell? ⟨z1, 0, none⟩ = some (.int .i64 (b)) := (Hz1.out.carry hX).1 0 (by decide); simp [go_sem, m6]) ?_
  simp only [zp4, zp5, zp6, zp0, zp1, zp2, zp3]
  refine wpX_f _ (.pointer (some ⟨j, 0, none⟩)) rfl rfl (fun X _ => by simp [go_sem]) ?_
  simp only [zp4, zp5, zp6, zp0, zp1, zp2, zp3]
  refine wpX_f _ (.pointer (some ⟨j, 0, none⟩)) rfl rfl (fun X _ => by simp [go_sem]) ?_
  simp only [zp4, zp5, zp6, zp0, zp1, zp2, zp3]
  refine wpX_f _ (.pointer (some ⟨j, 0, none⟩)) rfl rfl (fun X _ => by simp [go_sem]) ?_
  simp only [zp4, zp5, zp6, zp0, zp1, zp2, zp3]
  refine wpX_f _ (.pointer (some ⟨p, 0, none⟩)) rfl rfl (fun X hX => by have m7 : X.cell? ⟨j, 0, none⟩ = some (.pointer (some ⟨p, 0, none⟩)) := (hR.out.carry hX).1 0 (by decide); simp [go_sem, m7]) ?_
  simp only [zp4, zp5, zp6, zp0, zp1, zp2, zp3]
  refine wpX_call _ rfl rfl (by simp [go_sem]) ((dv_len (hJ.out.ext (Ext.draw (Ext.refl _))).dv).mono ?_)
  rintro e y8 ⟨rfl, h9⟩
  replace h9 : Ext x2.drew.drew y8 := by rw [h9]; exact Ext.refl _
  refine ⟨_, rfl, fun X => Ext y8 X, fun X hX => Ext.trans h9 hX, Ext.refl _, ?_⟩
  simp only [zp4, zp5, zp6, zp0, zp1, zp2, zp3]
  replace hR := hideit (hR.out.carry h9)
  replace Hz1 := hideit (Hz1.out.carry h9)
  replace hE := hideit (Ext.trans hE.out (h9))
  clear h9
  refine wpX_f _ (.bool false) rfl rfl (fun X _ => by simp [go_sem, a4.out]) ?_
  simp only [zp4, zp5, zp6, zp0, zp1, zp2, zp3]
  refine wpX_f _ (.bool false) rfl rfl (fun X _ => by simp [go_sem]) ?_
  simp only [zp4, zp5, zp6, zp0, zp1, zp2, zp3]
  refine wpX_f _ (.bool false) rfl rfl (fun X _ => by simp [go_sem]) ?_
  simp only [zp4, zp5, zp6, zp0, zp1, zp2, zp3]
  refine wpX_nil ?_
  go_wp2
  go_ret
  exact ⟨rfl, hE.out⟩
set_option maxRecDepth 20000 in
set_option maxHeartbeats 4000000 in
theorem fg3 (b : Int) (u : Value) (j p fi co : Nat) (nu : BitVec 64) (us : Nat) (bg : Bool) (F : Nat → Prop) (N : Nat) (A D : Nat → Nat → BitVec 8) (C : Nat) (w : World) (hJ : JR j p fi co nu us bg F N A D C w) (a1 : (fi : Int) ≤ b) (a2 : b < (fi : Int) + (co : Int)) : Calls Tryd.prog 24 #[.pointer (some ⟨j, 0, none⟩), .agg (row 2 (rdC (fun _ => b) (fun _ => u))).toArray] w fun e w' => e = .returned (.bool true) ∧ Ext w w' := by
  have hR := hideit hJ.row
  replace hJ := hideit hJ
  have q1 : IntKind.i64.wrap ((fi : Int) + (co : Int)) = (fi : Int) + (co : Int) := by have := hJ.out.ar; have := hJ.out.dv.n4; rw [IntKind.wrap_i64]; omega
  replace a1 := hideit a1
  replace a2 := hideit a2
  replace q1 := hideit q1
  have hE := hideit (Ext.refl w)
  go_enter Tryd.func24, Tryd.ntmps24
  go_upto_region 0 with (fail)
  refine wp_region_lit ?_
  have A0 := hideit (RowAt.new w 2 (rdC (fun _ => b) (fun _ => u)) 47)
  have XB : Ext w (w.alloc (.cells (row 2 (rdC (fun _ => b) (fun _ => u))).toArray 47)) := (Below.refl _ _).alloc (Nat.le_refl _) _
  have A1 := hideit (hR.out.carry XB)
  have AE := hideit (Ext.trans hE.out (XB))
  have AB := hideit (hE.out.size)
  have D0 : Hid (j ≠ w.heap.size) := Nat.ne_of_lt hR.out.2.2
  clear XB
  refine wpList_to rfl (.pointer (some ⟨w.heap.size, 0, none⟩)) (w.alloc (.cells (row 2 (rdC (fun _ => b) (fun _ => u))).toArray 47)) (by simp [go_sem]) ?_
  simp only [zp0, zp1, zp2, zp3]
  generalize w.alloc (.cells (row 2 (rdC (fun _ => b) (fun _ => u))).toArray 47) = x2 at A0 A1 AE ⊢
  obtain ⟨z1, ez1⟩ : ∃ b, b = w.heap.size := ⟨_, rfl⟩
  have ABz1 : Hid (w.heap.size ≤ z1) := by rw [ez1]; exact AB.out
  clear AB
  rw [← ez1] at A0 D0 ⊢
  clear ez1
  have Hz1 := A0
  clear A0
  replace hR := A1
  clear A1
  replace hE := AE
  clear AE
  have Dz1_0 := D0
  clear D0
  refine xm [some (.bool false)] (by kernel_rfl) (by simp [xr, go_sem]) ?_
  simp only [xw, p0, p1, p2, p3]
  replace hJ := hideit (hJ.out.ext hE.out)
  go_upto_region 1 with (fail)
  replace hR := hideit hR.out.drew
  replace Hz1 := hideit Hz1.out.drew
  replace hE := hideit (Ext.draw hE.out)
  refine wp_region_lad (fun X => Ext x2.drew X) [(false, 0), (false, 1), (false, 2), (false, 3), (false, 4), (false, 5), (false, 6), (false, 7), (false, 8), (false, 9), (false, 10), (false, 11), (false, 12), (false, 13), (false, 14), (false, 15), (false, 16), (false, 17), (false, 18), (false, 19), (false, 20), (false, 21)] (by kernel_rfl) (by kernel_rfl) (by decide +kernel) (by decide +kernel) (by decide +kernel) (by decide +kernel) (Ext.refl _) ?_
  refine wpX_f _ (.pointer (some ⟨z1, 0, none⟩)) rfl rfl (fun X _ => by simp [go_sem]) ?_
  simp only [List.getElem_toArray, List.getElem_cons_zero, Act.put, List.setIfInBounds_toArray, List.set_cons_zero, List.set_cons_succ]
  refine wpX_f _ (.int .i64 (b)) rfl rfl (fun X hX => by have m3 : X.cell? ⟨z1, 0, none⟩ = some (.int .i64 (b)) := (Hz1.out.carry hX).1 0 (by decide); simp [go_sem, m3]) ?_
  simp only [zp4, zp5, zp6, zp0, zp1, zp2, zp3]
  refine wpX_f _ (.pointer (some ⟨j, 0, none⟩)) rfl rfl (fun X _ => by simp [go_sem]) ?_
  simp only [zp4, zp5, zp6, zp0, zp1, zp2, zp3]
  refine wpX_f _ (.pointer (some ⟨j, 0, none⟩)) rfl rfl (fun X _ => by simp [go_sem]) ?_
  simp only [zp4, zp5, zp6, zp0, zp1, zp2, zp3]
  refine wpX_f _ (.pointer (some ⟨j, 1, none⟩)) rfl rfl (fun X _ => by simp [go_sem]) ?_
  simp only [zp4, zp5, zp6, zp0, zp1, zp2, zp3]
  refine wpX_f _ (.int .i64 (fi : Int)) rfl rfl (fun X hX => by have m4 : X.cell? ⟨j, 1, none⟩ = some (.int .i64 (fi : Int)) := (hR.out.carry hX).1 1 (by decide); simp [go_sem, m4]) ?_
  simp only [zp4, zp5, zp6, zp0, zp1, zp2, zp3]
  refine wpX_f _ (.bool true) rfl rfl (fun X _ => by simp [go_sem, a1.out]) ?_
  simp only [zp4, zp5, zp6, zp0, zp1, zp2, zp3]
  refine wpX_f _ (.bool true) rfl rfl (fun X _ => by simp [go_sem]) ?_
  simp only [zp4, zp5, zp6, zp0, zp1, zp2, zp3]
  refine wpX_f _ (.pointer (some ⟨z1, 0, none⟩)) rfl rfl (fun X _ => by simp [go_sem]) ?_
  simp only [zp4, zp5, zp6, zp0, zp1, zp2, zp3]
  refine wpX_f _ (.int .i64 (b)) rfl rfl (fun X hX => by have m5 : X.cell? ⟨z1, 0, none⟩ = some (.int .i64 (b)) := (Hz1.out.carry hX).1 0 (by decide); simp [go_sem, m5]) ?_
  simp only [zp4, zp5, zp6, zp0, zp1, zp2, zp3]
  refine wpX_f _ (.pointer (some ⟨j, 0, none⟩)) rfl rfl (fun X _ => by simp [go_sem]) ?_
  simp only [zp4, zp5, zp6, zp0, zp1, zp2, zp3]
  refine wpX_f _ (.pointer (some ⟨j, 0, none⟩)) rfl rfl (fun X _ => by simp [go_sem]) ?_
  simp only [zp4, zp5, zp6, zp0, zp1, zp2, zp3]
  refine wpX_f _ (.pointer (some ⟨j, 1, none⟩)) rfl rfl (fun X _ => by simp [go_sem]) ?_
  simp only [zp4, zp5, zp6, zp0, zp1, zp2, zp3]
  refine wpX_f _ (.int .i64 (fi : Int)) rfl rfl (fun X hX => by have m6 : X.cell? ⟨j, 1, none⟩ = some (.int .i64 (fi : Int)) := (hR.out.carry hX).1 1 (by decide); simp [go_sem, m6]) ?_
  simp only [zp4, zp5, zp6, zp0, zp1, zp2, zp3]
  refine wpX_f _ (.pointer (some ⟨j, 0, none⟩)) rfl rfl (fun X _ => by simp [go_sem]) ?_
  simp only [zp4, zp5, zp6, zp0, zp1, zp2, zp3]
  refine wpX_f _ (.pointer (some ⟨j, 0, none⟩)) rfl rfl (fun X _ => by simp [go_sem]) ?_
  simp only [zp4, zp5, zp6, zp0, zp1, zp2, zp3]
  refine wpX_f _ (.pointer (some ⟨j, 2, none⟩)) rfl rfl (fun X _ => by simp [go_sem]) ?_
  simp only [zp4, zp5, zp6, zp0, zp1, zp2, zp3]
  refine wpX_f _ (.int .i64 (co : Int)) rfl rfl (fun X hX => by have m7 : X.cell? ⟨j, 2, none⟩ = some (.int .i64 (co : Int)) := (hR.out.carry hX).1 2 (by decide); simp [go_sem, m7]) ?_
  simp only [zp4, zp5, zp6, zp0, zp1, zp2, zp3]
  refine wpX_f _ (.int .i64 ((fi : Int) + (co : Int))) rfl rfl (fun X _ => by simp [go_sem, q1.out]) ?_
  simp only [zp4, zp5, zp6, zp0, zp1, zp2, zp3]
  refine wpX_f _ (.bool true) rfl rfl (fun X _ => by simp [go_sem, a2.out]) ?_
  simp only [zp4, zp5, zp6, zp0, zp1, zp2, zp3]
  refine wpX_f _ (.bool true) rfl rfl (fun X _ => by simp [go_sem]) ?_
  simp only [zp4, zp5, zp6, zp0, zp1, zp2, zp3]
  refine wpX_f _ (.bool true) rfl rfl (fun X _ => by simp [go_sem]) ?_
  simp only [zp4, zp5, zp6, zp0, zp1, zp2, zp3]
  refine wpX_nil ?_
  replace hJ := hideit (hJ.out.ext (Ext.draw (Ext.refl _)))
  go_upto_region 2 with (fail)
  replace hR := hideit hR.out.drew
  replace Hz1 := hideit Hz1.out.drew
  replace hE := hideit (Ext.draw hE.out)
  refine wp_region_lad (fun X => Ext x2.drew.drew X) [(false, 0), (false, 1), (false, 2), (false, 3), (false, 4), (false, 5), (false, 6), (false, 7), (false, 8), (false, 9), (false, 10), (false, 11), (false, 12), (true, 13), (false, 14), (false, 15), (false, 16)] (by kernel_rfl) (by kernel_rfl) (by decide +kernel) (by decide +kernel) (by decide +kernel) (by decide +kernel) (Ext.refl _) ?_
  refine wpX_f _ (.bool true) rfl rfl (fun X _ => by simp [go_sem]) ?_
  simp only [List.getElem_toArray, List.getElem_cons_zero, Act.put, List.setIfInBounds_toArray, List.set_cons_zero, List.set_cons_succ]
  refine wpX_f _ (.bool true) rfl rfl (fun X _ => by simp [go_sem]) ?_
  simp only [zp4, zp5, zp6, zp0, zp1, zp2, zp3]
  refine wpX_fskip _ rfl rfl ?_
  simp only [zp4, zp5, zp6, zp0, zp1, zp2, zp3]
  refine wpX_fskip _ rfl rfl ?_
  simp only [zp4, zp5, zp6, zp0, zp1, zp2, zp3]
  refine wpX_fskip _ rfl rfl ?_
  simp only [zp4, zp5, zp6, zp0, zp1, zp2, zp3]
  refine wpX_f _ (.bool true) rfl rfl (fun X _ => by simp [go_sem]) ?_
  simp only [zp4, zp5, zp6, zp0, zp1, zp2, zp3]
  refine wpX_f _ (.bool true) rfl rfl (fun X _ => by simp [go_sem]) ?_
  simp only [zp4, zp5, zp6, zp0, zp1, zp2, zp3]
  refine wpX_fskip _ rfl rfl ?_
  simp only [zp4, zp5, zp6, zp0, zp1, zp2, zp3]
  refine wpX_fskip _ rfl rfl ?_
  simp only [zp4, zp5, zp6, zp0, zp1, zp2, zp3]
  refine wpX_fskip _ rfl rfl ?_
  simp only [zp4, zp5, zp6, zp0, zp1, zp2, zp3]
  refine wpX_fskip _ rfl rfl ?_
  simp only [zp4, zp5, zp6, zp0, zp1, zp2, zp3]
  refine wpX_fskip _ rfl rfl ?_
  simp only [zp4, zp5, zp6, zp0, zp1, zp2, zp3]
  refine wpX_fskip _ rfl rfl ?_
  simp only [zp4, zp5, zp6, zp0, zp1, zp2, zp3]
  refine ⟨_, rfl, .inr ⟨rfl, fun X => Ext x2.drew.drew X, fun X hX => hX, Ext.refl _, ?_⟩⟩
  simp only [zp4, zp5, zp6, zp0, zp1, zp2, zp3]
  refine wpX_fskip _ rfl rfl ?_
  simp only [zp4, zp5, zp6, zp0, zp1, zp2, zp3]
  refine wpX_f _ (.bool true) rfl rfl (fun X _ => by simp [go_sem]) ?_
  simp only [zp4, zp5, zp6, zp0, zp1, zp2, zp3]
  refine wpX_f _ (.bool true) rfl rfl (fun X _ => by simp [go_sem]) ?_
  simp only [zp4, zp5, zp6, zp0, zp1, zp2, zp3]
  refine wpX_nil ?_
  go_wp2
  go_ret
  exact ⟨rfl, hE.out⟩
set_option maxRecDepth 20000 in
set_option maxHeartbeats 4000000 in
theorem fg4 (b : Int) (u : Value) (j p fi co : Nat) (nu : BitVec 64) (us : Nat) (bg : Bool) (F : Nat → Prop) (N : Nat) (A D : Nat → Nat → BitVec 8) (C : Nat) (w : World) (hJ : JR j p fi co nu us bg F N A D C w) (a1 : (fi : Int) ≤ b) (a2 : ¬ b < (fi : Int) + (co : Int)) (a3 : ¬ b < 0) (a4 : (N : Int) ≤ b) : Calls Tryd.prog 24 #[.pointer (some ⟨j, 0, none⟩), .agg (row 2 (rdC (fun _ => b) (fun _ => u))).toArray] w fun e w' => e = .returned (.bool true) ∧ Ext w w' := by
  have hR := hideit hJ.row
  replace hJ := hideit hJ
  have q1 : IntKind.i64.wrap ((fi : Int) + (co : Int)) = (fi : Int) + (co : Int) := by have := hJ.out.ar; have := hJ.out.dv.n4; rw [IntKind.wrap_i64]; omega
  replace a1 := hideit a1
  replace a2 := hideit a2
  replace a3 := hideit a3
  replace a4 := hideit a4
  replace q1 := hideit q1
  have hE := hideit (Ext.refl w)
  go_enter Tryd.func24, Tryd.ntmps24
  go_upto_region 0 with (fail)
  refine wp_region_lit ?_
  have A0 := hideit (RowAt.new w 2 (rdC (fun _ => b) (fun _ => u)) 47)
  have XB : Ext w (w.alloc (.cells (row 2 (rdC (fun _ => b) (fun _ => u))).toArray 47)) := (Below.refl _ _).alloc (Nat.le_refl _) _
  have A1 := hideit (hR.out.carry XB)
  have AE := hideit (Ext.trans hE.out (XB))
  have AB := hideit (hE.out.size)
  have D0 : Hid (j ≠ w.heap.size) := Nat.ne_of_lt hR.out.2.2
  clear XB
  refine wpList_to rfl (.pointer (some ⟨w.heap.size, 0, none⟩)) (w.alloc (.cells (row 2 (rdC (fun _ => b) (fun _ => u))).toArray 47)) (by simp [go_sem]) ?_
  simp only [zp0, zp1, zp2, zp3]
  generalize w.alloc (.cells (row 2 (rdC (fun _ => b) (fun _ => u))).toArray 47) = x2 at A0 A1 AE ⊢
  obtain ⟨z1, ez1⟩ : ∃ b, b = w.heap.size := ⟨_, rfl⟩
  have ABz1 : Hid (w.heap.size ≤ z1) := by rw [ez1]; exact AB.out
  clear AB
  rw [← ez1] at A0 D0 ⊢
  clear ez1
  have Hz1 := A0
  clear A0
  replace hR := A1
  clear A1
  replace hE := AE
  clear AE
  have Dz1_0 := D0
  clear D0
  refine xm [some (.bool false)] (by kernel_rfl) (by simp [xr, go_sem]) ?_
  simp only [xw, p0, p1, p2, p3]
  replace hJ := hideit (hJ.out.ext hE.out)
  go_upto_region 1 with (fail)
  replace hR := hideit hR.out.drew
  replace Hz1 := hideit Hz1.out.drew
  replace hE := hideit (Ext.draw hE.out)
  refine wp_region_lad (fun X => Ext x2.drew X) [(false, 0), (false, 1), (false, 2), (false, 3), (false, 4), (false, 5), (false, 6), (false, 7), (false, 8), (false, 9), (false, 10), (false, 11), (false, 12), (false, 13), (false, 14), (false, 15), (false, 16), (false, 17), (false, 18), (false, 19), (false, 20), (false, 21)] (by kernel_rfl) (by kernel_rfl) (by decide +kernel) (by decide +kernel) (by decide +kernel) (by decide +kernel) (Ext.refl _) ?_
  refine wpX_f _ (.pointer (some ⟨z1, 0, none⟩)) rfl rfl (fun X _ => by simp [go_sem]) ?_
  simp only [List.getElem_toArray, List.getElem_cons_zero, Act.put, List.setIfInBounds_toArray, List.set_cons_zero, List.set_cons_succ]
  refine wpX_f _ (.int .i64 (b)) rfl rfl (fun X hX => by have m3 : X.cell? ⟨z1, 0, none⟩ = some (.int .i64 (b)) := (Hz1.out.carry hX).1 0 (by decide); simp [go_sem, m3]) ?_
  simp only [zp4, zp5, zp6, zp0, zp1, zp2, zp3]
  refine wpX_f _ (.pointer (some ⟨j, 0, none⟩)) rfl rfl (fun X _ => by simp [go_sem]) ?_
  simp only [zp4, zp5, zp6, zp0, zp1, zp2, zp3]
  refine wpX_f _ (.pointer (some ⟨j, 0, none⟩)) rfl rfl (fun X _ => by simp [go_sem]) ?_
  simp only [zp4, zp5, zp6, zp0, zp1, zp2, zp3]
  refine wpX_f _ (.pointer (some ⟨j, 1, none⟩)) rfl rfl (fun X _ => by simp [go_sem]) ?_
  simp only [zp4, zp5, zp6, zp0, zp1, zp2, zp3]
  refine wpX_f _ (.int .i64 (fi : Int)) rfl rfl (fun X hX => by have m4 : X.cell? ⟨j, 1, none⟩ = some (.int .i64 (fi : Int)) := (hR.out.carry hX).1 1 (by decide); simp [go_sem, m4]) ?_
  simp only [zp4, zp5, zp6, zp0, zp1, zp2, zp3]
  refine wpX_f _ (.bool true) rfl rfl (fun X _ => by simp [go_sem, a1.out]) ?_
  simp only [zp4, zp5, zp6, zp0, zp1, zp2, zp3]
  refine wpX_f _ (.bool true) rfl rfl (fun X _ => by simp [go_sem]) ?_
  simp only [zp4, zp5, zp6, zp0, zp1, zp2, zp3]
  refine wpX_f _ (.pointer (some ⟨z1, 0, none⟩)) rfl rfl (fun X _ => by simp [go_sem]) ?_
  simp only [zp4, zp5, zp6, zp0, zp1, zp2, zp3]
  refine wpX_f _ (.int .i64 (b)) rfl rfl (fun X hX => by have m5 : X.cell? ⟨z1, 0, none⟩ = some (.int .i64 (b)) := (Hz1.out.carry hX).1 0 (by decide); simp [go_sem, m5]) ?_
  simp only [zp4, zp5, zp6, zp0, zp1, zp2, zp3]
  refine wpX_f _ (.pointer (some ⟨j, 0, none⟩)) rfl rfl (fun X _ => by simp [go_sem]) ?_
  simp only [zp4, zp5, zp6, zp0, zp1, zp2, zp3]
  refine wpX_f _ (.pointer (some ⟨j, 0, none⟩)) rfl rfl (fun X _ => by simp [go_sem]) ?_
  simp only [zp4, zp5, zp6, zp0, zp1, zp2, zp3]
  refine wpX_f _ (.pointer (some ⟨j, 1, none⟩)) rfl rfl (fun X _ => by simp [go_sem]) ?_
  simp only [zp4, zp5, zp6, zp0, zp1, zp2, zp3]
  refine wpX_f _ (.int .i64 (fi : Int)) rfl rfl (fun X hX => by have m6 : X.cell? ⟨j, 1, none⟩ = some (.int .i64 (fi : Int)) := (hR.out.carry hX).1 1 (by decide); simp [go_sem, m6]) ?_
  simp only [zp4, zp5, zp6, zp0, zp1, zp2, zp3]
  refine wpX_f _ (.pointer (some ⟨j, 0, none⟩)) rfl rfl (fun X _ => by simp [go_sem]) ?_
  simp only [zp4, zp5, zp6, zp0, zp1, zp2, zp3]
  refine wpX_f _ (.pointer (some ⟨j, 0, none⟩)) rfl rfl (fun X _ => by simp [go_sem]) ?_
  simp only [zp4, zp5, zp6, zp0, zp1, zp2, zp3]
  refine wpX_f _ (.pointer (some ⟨j, 2, none⟩)) rfl rfl (fun X _ => by simp [go_sem]) ?_
  simp only [zp4, zp5, zp6, zp0, zp1, zp2, zp3]
  refine wpX_f _ (.int .i64 (co : Int)) rfl rfl (fun X hX => by have m7 : X.cell? ⟨j, 2, none⟩ = some (.int .i64 (co : Int)) := (hR.out.carry hX).1 2 (by decide); simp [go_sem, m7]) ?_
  simp only [zp4, zp5, zp6, zp0, zp1, zp2, zp3]
  refine wpX_f _ (.int .i64 ((fi : Int) + (co : Int))) rfl rfl (fun X _ => by simp [go_sem, q1.out]) ?_
  simp only [zp4, zp5, zp6, zp0, zp1, zp2, zp3]
  refine wpX_f _ (.bool false) rfl rfl (fun X _ => by simp [go_sem, a2.out]) ?_
  simp only [zp4, zp5, zp6, zp0, zp1, zp2, zp3]
  refine wpX_f _ (.bool false) rfl rfl (fun X _ => by simp [go_sem]) ?_
  simp only [zp4, zp5, zp6, zp0, zp1, zp2, zp3]
  refine wpX_f _ (.bool false) rfl rfl (fun X _ => by simp [go_sem]) ?_
  simp only [zp4, zp5, zp6, zp0, zp1, zp2, zp3]
  refine wpX_nil ?_
  replace hJ := hideit (hJ.out.ext (Ext.draw (Ext.refl _)))
  go_upto_region 2 with (fail)
  replace hR := hideit hR.out.drew
  replace Hz1 := hideit Hz1.out.drew
  replace hE := hideit (Ext.draw hE.out)
  refine wp_region_lad (fun X => Ext x2.drew.drew X) [(false, 0), (false, 1), (false, 2), (false, 3), (false, 4), (false, 5), (false, 6), (false, 7), (false, 8), (false, 9), (false, 10), (false, 11), (false, 12), (true, 13), (false, 14), (false, 15), (false, 16)] (by kernel_rfl) (by kernel_rfl) (by decide +kernel) (by decide +kernel) (by decide +kernel) (by decide +kernel) (Ext.refl _) ?_
  refine wpX_f _ (.bool false) rfl rfl (fun X _ => by simp [go_sem]) ?_
  simp only [List.getElem_toArray, List.getElem_cons_zero, Act.put, List.setIfInBounds_toArray, List.set_cons_zero, List.set_cons_succ]
  refine wpX_f _ (.bool false) rfl rfl (fun X _ => by simp [go_sem]) ?_
  simp only [zp4, zp5, zp6, zp0, zp1, zp2, zp3]
  refine wpX_f _ (.pointer (some ⟨z1, 0, none⟩)) rfl rfl (fun X _ => by simp [go_sem]) ?_
  simp only [zp4, zp5, zp6, zp0, zp1, zp2, zp3]
  refine wpX_f _ (.int .i64 (b)) rfl rfl (fun X hX => by have m8 : X.cell? ⟨z1, 0, none⟩ = some (.int .i64 (b)) := (Hz1.out.carry hX).1 0 (by decide); simp [go_sem, m8]) ?_
  simp only [zp4, zp5, zp6, zp0, zp1, zp2, zp3]
  refine wpX_f _ (.bool false) rfl rfl (fun X _ => by simp [go_sem, a3.out]) ?_
  simp only [zp4, zp5, zp6, zp0, zp1, zp2, zp3]
  refine wpX_f _ (.bool false) rfl rfl (fun X _ => by simp [go_sem]) ?_
  simp only [zp4, zp5, zp6, zp0, zp1, zp2, zp3]
  refine wpX_f _ (.bool false) rfl rfl (fun X _ => by simp [go_sem]) ?_
  simp only [zp4, zp5, zp6, zp0, zp1, zp2, zp3]
  refine wpX_f _ (.pointer (some ⟨z1, 0, none⟩)) rfl rfl (fun X _ => by simp [go_sem]) ?_
  simp only [zp4, zp5, zp6, zp0, zp1, zp2, zp3]
  refine wpX_f _ (.int .i64 (b)) rfl rfl (fun X hX => by have m9 : X.cell? ⟨z1, 0, none⟩ = some (.int .i64 (b)) := (Hz1.out.carry hX).1 0 (by decide); simp [go_sem, m9]) ?_
  simp only [zp4, zp5, zp6, zp0, zp1, zp2, zp3]
  refine wpX_f _ (.pointer (some ⟨j, 0, none⟩)) rfl rfl (fun X _ => by simp [go_sem]) ?_
  simp only [zp4, zp5, zp6, zp0, zp1, zp2, zp3]
  refine wpX_f _ (.pointer (some ⟨j, 0, none⟩)) rfl rfl (fun X _ => by simp [go_sem]) ?_
  simp only [zp4, zp5, zp6, zp0, zp1, zp2, zp3]
  refine wpX_f _ (.pointer (some ⟨j, 0, none⟩)) rfl rfl (fun X _ => by simp [go_sem]) ?_
  simp only [zp4, zp5, zp6, zp0, zp1, zp2, zp3]
  refine wpX_f _ (.pointer (some ⟨p, 0, none⟩)) rfl rfl (fun X hX => by have m10 : X.cell? ⟨j, 0, none⟩ = some (.pointer (some ⟨p, 0, none⟩)) := (hR.out.carry hX).1 0 (by decide); simp [go_sem, m10]) ?_
  simp only [zp4, zp5, zp6, zp0, zp1, zp2, zp3]
  refine wpX_call _ rfl rfl (by simp [go_sem]) ((dv_len (hJ.out.ext (Ext.draw (Ext.refl _))).dv).mono ?_)
  rintro e y11 ⟨rfl, h12⟩
  replace h12 : Ext x2.drew.drew y11 := by rw [h12]; exact Ext.refl _
  refine ⟨_, rfl, fun X => Ext y11 X, fun X hX => Ext.trans h12 hX, Ext.refl _, ?_⟩
  simp only [zp4, zp5, zp6, zp0, zp1, zp2, zp3]
  replace hR := hideit (hR.out.carry h12)
  replace Hz1 := hideit (Hz1.out.carry h12)
  replace hE := hideit (Ext.trans hE.out (h12))
  clear h12
  refine wpX_f _ (.bool true) rfl rfl (fun X _ => by simp [go_sem, a4.out]) ?_
  simp only [zp4, zp5, zp6, zp0, zp1, zp2, zp3]
  refine wpX_f _ (.bool true) rfl rfl (fun X _ => by simp [go_sem]) ?_
  simp only [zp4, zp5, zp6, zp0, zp1, zp2, zp3]
  refine wpX_f _ (.bool true) rfl rfl (fun X _ => by simp [go_sem]) ?_
  simp only [zp4, zp5, zp6, zp0, zp1, zp2, zp3]
  refine wpX_nil ?_
  go_wp2
  go_ret
  exact ⟨rfl, hE.out⟩
set_option maxRecDepth 20000 in
set_option maxHeartbeats 4000000 in
theorem fg5 (b : Int) (u : Value) (j p fi co : Nat) (nu : BitVec 64) (us : Nat) (bg : Bool) (F : Nat → Prop) (N : Nat) (A D : Nat → Nat → BitVec 8) (C : Nat) (w : World) (hJ : JR j p fi co nu us bg F N A D C w) (a1 : (fi : Int) ≤ b) (a2 : ¬ b < (fi : Int) + (co : Int)) (a3 : ¬ b < 0) (a4 : ¬ (N : Int) ≤ b) : Calls Tryd.prog 24 #[.pointer (some ⟨j, 0, none⟩), .agg (row 2 (rdC (fun _ => b) (fun _ => u))).toArray] w fun e w' => e = .returned (.bool false) ∧ Ext w w' := by
  have hR := hideit hJ.row
  replace hJ := hideit hJ
  have q1 : IntKind.i64.wrap ((fi : Int) + (co : Int)) = (fi : Int) + (co : Int) := by have := hJ.out.ar; have := hJ.out.dv.n4; rw [IntKind.wrap_i64]; omega
  replace a1 := hideit a1
  replace a2 := hideit a2
  replace a3 := hideit a3
  replace a4 := hideit a4
  replace q1 := hideit q1
  have hE := hideit (Ext.refl w)
  go_enter Tryd.func24, Tryd.ntmps24
  go_upto_region 0 with (fail)
  refine wp_region_lit ?_
  have A0 := hideit (RowAt.new w 2 (rdC (fun _ => b) (fun _ => u)) 47)
  have XB : Ext w (w.alloc (.cells (row 2 (rdC (fun _ => b) (fun _ => u))).toArray 47)) := (Below.refl _ _).alloc (Nat.le_refl _) _
  have A1 := hideit (hR.out.carry XB)
  have AE := hideit (Ext.trans hE.out (XB))
  have AB := hideit (hE.out.size)
  have D0 : Hid (j ≠ w.heap.size) := Nat.ne_of_lt hR.out.2.2
  clear XB
  refine wpList_to rfl (.pointer (some ⟨w.heap.size, 0, none⟩)) (w.alloc (.cells (row 2 (rdC (fun _ => b) (fun _ => u))).toArray 47)) (by simp [go_sem]) ?_
  simp only [zp0, zp1, zp2, zp3]
  generalize w.alloc (.cells (row 2 (rdC (fun _ => b) (fun _ => u))).toArray 47) = x2 at A0 A1 AE ⊢
  obtain ⟨z1, ez1⟩ : ∃ b, b = w.heap.size := ⟨_, rfl⟩
  have ABz1 : Hid (w.heap.size ≤ z1) := by rw [ez1]; exact AB.out
  clear AB
  rw [← ez1] at A0 D0 ⊢
  clear ez1
  have Hz1 := A0
  clear A0
  replace hR := A1
  clear A1
  replace hE := AE
  clear AE
  have Dz1_0 := D0
  clear D0
  refine xm [some (.bool false)] (by kernel_rfl) (by simp [xr, go_sem]) ?_
  simp only [xw, p0, p1, p2, p3]
  replace hJ := hideit (hJ.out.ext hE.out)
  go_upto_region 1 with (fail)
  replace hR := hideit hR.out.drew
  replace Hz1 := hideit Hz1.out.drew
  replace hE := hideit (Ext.draw hE.out)
  refine wp_region_lad (fun X => Ext x2.drew X) [(false, 0), (false, 1), (false, 2), (false, 3), (false, 4), (false, 5), (false, 6), (false, 7), (false, 8), (false, 9), (false, 10), (false, 11), (false, 12), (false, 13), (false, 14), (false, 15), (false, 16), (false, 17), (false, 18), (false, 19), (false, 20), (false, 21)] (by kernel_rfl) (by kernel_rfl) (by decide +kernel) (by decide +kernel) (by decide +kernel) (by decide +kernel) (Ext.refl _) ?_
  refine wpX_f _ (.pointer (some ⟨z1, 0, none⟩)) rfl rfl (fun X _ => by simp [go_sem]) ?_
  simp only [List.getElem_toArray, List.getElem_cons_zero, Act.put, List.setIfInBounds_toArray, List.set_cons_zero, List.set_cons_succ]
  refine wpX_f _ (.int .i64 (b)) rfl rfl (fun X hX => by have m3 : X.cell? ⟨z1, 0, none⟩ = some (.int .i64 (b)) := (Hz1.out.carry hX).1 0 (by decide); simp [go_sem, m3]) ?_
  simp only [zp4, zp5, zp6, zp0, zp1, zp2, zp3]
  refine wpX_f _ (.pointer (some ⟨j, 0, none⟩)) rfl rfl (fun X _ => by simp [go_sem]) ?_
  simp only [zp4, zp5, zp6, zp0, zp1, zp2, zp3]
  refine wpX_f _ (.pointer (some ⟨j, 0, none⟩)) rfl rfl (fun X _ => by simp [go_sem]) ?_
  simp only [zp4, zp5, zp6, zp0, zp1, zp2, zp3]
  refine wpX_f _ (.pointer (some ⟨j, 1, none⟩)) rfl rfl (fun X _ => by simp [go_sem]) ?_
  simp only [zp4, zp5, zp6, zp0, zp1, zp2, zp3]
  refine wpX_f _ (.int .i64 (fi : Int)) rfl rfl (fun X hX => by have m4 : X.cell? ⟨j, 1, none⟩ = some (.int .i64 (fi : Int)) := (hR.out.carry hX).1 1 (by decide); simp [go_sem, m4]) ?_
  simp only [zp4, zp5, zp6, zp0, zp1, zp2, zp3]
  refine wpX_f _ (.bool true) rfl rfl (fun X _ => by simp [go_sem, a1.out]) ?_
  simp only [zp4, zp5, zp6, zp0, zp1, zp2, zp3]
  refine wpX_f _ (.bool true) rfl rfl (fun X _ => by simp [go_sem]) ?_
  simp only [zp4, zp5, zp6, zp0, zp1, zp2, zp3]
  refine wpX_f _ (.pointer (some ⟨z1, 0, none⟩)) rfl rfl (fun X _ => by simp [go_sem]) ?_
  simp only [zp4, zp5, zp6, zp0, zp1, zp2, zp3]
  refine wpX_f _ (.int .i64 (b)) rfl rfl (fun X hX => by have m5 : X.cell? ⟨z1, 0, none⟩ = some (.int .i64 (b)) := (Hz1.out.carry hX).1 0 (by decide); simp [go_sem, m5]) ?_
  simp only [zp4, zp5, zp6, zp0, zp1, zp2, zp3]
  refine wpX_f _ (.pointer (some ⟨j, 0, none⟩)) rfl rfl (fun X _ => by simp [go_sem]) ?_
  simp only [zp4, zp5, zp6, zp0, zp1, zp2, zp3]
  refine wpX_f _ (.pointer (some ⟨j, 0, none⟩)) rfl rfl (fun X _ => by simp [go_sem]) ?_
  simp only [zp4, zp5, zp6, zp0, zp1, zp2, zp3]
  refine wpX_f _ (.pointer (some ⟨j, 1, none⟩)) rfl rfl (fun X _ => by simp [go_sem]) ?_
  simp only [zp4, zp5, zp6, zp0, zp1, zp2, zp3]
  refine wpX_f _ (.int .i64 (fi : Int)) rfl rfl (fun X hX => by have m6 : X.cell? ⟨j, 1, none⟩ = some (.int .i64 (fi : Int)) := (hR.out.carry hX).1 1 (by decide); simp [go_sem, m6]) ?_
  simp only [zp4, zp5, zp6, zp0, zp1, zp2, zp3]
  refine wpX_f _ (.pointer (some ⟨j, 0, none⟩)) rfl rfl (fun X _ => by simp [go_sem]) ?_
  simp only [zp4, zp5, zp6, zp0, zp1, zp2, zp3]
  refine wpX_f _ (.pointer (some ⟨j, 0, none⟩)) rfl rfl (fun X _ => by simp [go_sem]) ?_
  simp only [zp4, zp5, zp6, zp0, zp1, zp2, zp3]
  refine wpX_f _ (.pointer (some ⟨j, 2, none⟩)) rfl rfl (fun X _ => by simp [go_sem]) ?_
  simp only [zp4, zp5, zp6, zp0, zp1, zp2, zp3]
  refine wpX_f _ (.int .i64 (co : Int)) rfl rfl (fun X hX => by have m7 : X.cell? ⟨j, 2, none⟩ = some (.int .i64 (co : Int)) := (hR.out.carry hX).1 2 (by decide); simp [go_sem, m7]) ?_
  simp only [zp4, zp5, zp6, zp0, zp1, zp2, zp3]
  refine wpX_f _ (.int .i64 ((fi : Int) + (co : Int))) rfl rfl (fun X _ => by simp [go_sem, q1.out]) ?_
  simp only [zp4, zp5, zp6, zp0, zp1, zp2, zp3]
  refine wpX_f _ (.bool false) rfl rfl (fun X _ => by simp [go_sem, a2.out]) ?_
  simp only [zp4, zp5, zp6, zp0, zp1, zp2, zp3]
  refine wpX_f _ (.bool false) rfl rfl (fun X _ => by simp [go_sem]) ?_
  simp only [zp4, zp5, zp6, zp0, zp1, zp2, zp3]
  refine wpX_f _ (.bool false) rfl rfl (fun X _ => by simp [go_sem]) ?_
  simp only [zp4, zp5, zp6, zp0, zp1, zp2, zp3]
  refine wpX_nil ?_
  replace hJ := hideit (hJ.out.ext (Ext.draw (Ext.refl _)))
  go_upto_region 2 with (fail)
  replace hR := hideit hR.out.drew
  replace Hz1 := hideit Hz1.out.drew
  replace hE := hideit (Ext.draw hE.out)
  refine wp_region_lad (fun X => Ext x2.drew.drew X) [(false, 0), (false, 1), (false, 2), (false, 3), (false, 4), (false, 5), (false, 6), (false, 7), (false, 8), (false, 9), (false, 10), (false, 11), (false, 12), (true, 13), (false, 14), (false, 15), (false, 16)] (by kernel_rfl) (by kernel_rfl) (by decide +kernel) (by decide +kernel) (by decide +kernel) (by decide +kernel) (Ext.refl _) ?_
  refine wpX_f _ (.bool false) rfl rfl (fun X _ => by simp [go_sem]) ?_
  simp only [List.getElem_toArray, List.getElem_cons_zero, Act.put, List.setIfInBounds_toArray, List.set_cons_zero, List.set_cons_succ]
  refine wpX_f _ (.bool false) rfl rfl (fun X _ => by simp [go_sem]) ?_
  simp only [zp4, zp5, zp6, zp0, zp1, zp2, zp3]
  refine wpX_f _ (.pointer (some ⟨z1, 0, none⟩)) rfl rfl (fun X _ => by simp [go_sem]) ?_
  simp only [zp4, zp5, zp6, zp0, zp1, zp2, zp3]
  refine wpX_f _ (.int .i64 (b)) rfl rfl (fun X hX => by have m8 : X.cell? ⟨z1, 0, none⟩ = some (.int .i64 (b)) := (Hz1.out.carry hX).1 0 (by decide); simp [go_sem, m8]) ?_
  simp only [zp4, zp5, zp6, zp0, zp1, zp2, zp3]
  refine wpX_f _ (.bool false) rfl rfl (fun X _ => by simp [go_sem, a3.out]) ?_
  simp only [zp4, zp5, zp6, zp0, zp1, zp2, zp3]
  refine wpX_f _ (.bool false) rfl rfl (fun X _ => by simp [go_sem]) ?_
  simp only [zp4, zp5, zp6, zp0, zp1, zp2, zp3]
  refine wpX_f _ (.bool false) rfl rfl (fun X _ => by simp [go_sem]) ?_
  simp only [zp4, zp5, zp6, zp0, zp1, zp2, zp3]
  refine wpX_f _ (.pointer (some ⟨z1, 0, none⟩)) rfl rfl (fun X _ => by simp [go_sem]) ?_
  simp only [zp4, zp5, zp6, zp0, zp1, zp2, zp3]
  refine wpX_f _ (.int .i64 (b)) rfl rfl (fun X hX => by have m9 : X.cell? ⟨z1, 0, none⟩ = some (.int .i64 (b)) := (Hz1.out.carry hX).1 0 (by decide); simp [go_sem, m9]) ?_
  simp only [zp4, zp5, zp6, zp0, zp1, zp2, zp3]
  refine wpX_f _ (.pointer (some ⟨j, 0, none⟩)) rfl rfl (fun X _ => by simp [go_sem]) ?_
  simp only [zp4, zp5, zp6, zp0, zp1, zp2, zp3]
  refine wpX_f _ (.pointer (some ⟨j, 0, none⟩)) rfl rfl (fun X _ => by simp [go_sem]) ?_
  simp only [zp4, zp5, zp6, zp0, zp1, zp2, zp3]
  refine wpX_f _ (.pointer (some ⟨j, 0, none⟩)) rfl rfl (fun X _ => by simp [go_sem]) ?_
  simp only [zp4, zp5, zp6, zp0, zp1, zp2, zp3]
  refine wpX_f _ (.pointer (some ⟨p, 0, none⟩)) rfl rfl (fun X hX => by have m10 : X.cell? ⟨j, 0, none⟩ = some (.pointer (some ⟨p, 0, none⟩)) := (hR.out.carry hX).1 0 (by decide); simp [go_sem, m10]) ?_
  simp only [zp4, zp5, zp6, zp0, zp1, zp2, zp3]
  refine wpX_call _ rfl rfl (by simp [go_sem]) ((dv_len (hJ.out.ext (Ext.draw (Ext.refl _))).dv).mono ?_)
  rintro e y11 ⟨rfl, h12⟩
  replace h12 : Ext x2.drew.drew y11 := by rw [h12]; exact Ext.refl _
  refine ⟨_, rfl, fun X => Ext y11 X, fun X hX => Ext.trans h12 hX, Ext.refl _, ?_⟩
  simp only [zp4, zp5, zp6, zp0, zp1, zp2, zp3]
  replace hR := hideit (hR.out.carry h12)
  replace Hz1 := hideit (Hz1.out.carry h12)
  replace hE := hideit (Ext.trans hE.out (h12))
  clear h12
  refine wpX_f _ (.bool false) rfl rfl (fun X _ => by simp [go_sem, a4.out]) ?_
  simp only [zp4, zp5, zp6, zp0, zp1, zp2, zp3]
  refine wpX_f _ (.bool false) rfl rfl (fun X _ => by simp [go_sem]) ?_
  simp only [zp4, zp5, zp6, zp0, zp1, zp2, zp3]
  refine wpX_f _ (.bool false) rfl rfl (fun X _ => by simp [go_sem]) ?_
  simp only [zp4, zp5, zp6, zp0, zp1, zp2, zp3]
  refine wpX_nil ?_
  go_wp2
  go_ret
  exact ⟨rfl, hE.out⟩
theorem fgn_any (b : Int) (u : Value) (j p fi co : Nat) (nu : BitVec 64) (us : Nat) (bg : Bool) (F : Nat → Prop) (N : Nat) (A D : Nat → Nat → BitVec 8) (C : Nat) (w : World) (hJ : JR j p fi co nu us bg F N A D C w) : Calls Tryd.prog 24 #[.pointer (some ⟨j, 0, none⟩), .agg #[.int .i64 b, u]] w fun e w' => e = .returned (.bool (fgB fi co N b)) ∧ Ext w w' := by
  have har := hJ.ar
  show Calls Tryd.prog 24 #[.pointer (some ⟨j, 0, none⟩), .agg (row 2 (rdC (fun _ => b) (fun _ => u))).toArray] w _
  unfold fgB
  by_cases a1 : (fi : Int) ≤ b
  · by_cases a2 : b < (fi : Int) + (co : Int)
    · rw [decide_eq_true (.inl ⟨a1, a2⟩)]
      exact fg3 b u j p fi co nu us bg F N A D C w hJ a1 a2
    · by_cases a4 : (N : Int) ≤ b
      · rw [decide_eq_true (.inr (.inr a4))]
        exact fg4 b u j p fi co nu us bg F N A D C w hJ a1 a2 (by omega) a4
      · rw [decide_eq_false (by omega)]
        exact fg5 b u j p fi co nu us bg F N A D C w hJ a1 a2 (by omega) a4
  · by_cases a3 : b < 0
    · rw [decide_eq_true (.inr (.inl a3))]
      exact fg1 b u j p fi co nu us bg F N A D C w hJ a1 a3
    · rw [decide_eq_false (by omega)]
      exact fg2 b u j p fi co nu us bg F N A D C w hJ a1 a3 (by omega)
set_option maxRecDepth 20000 in
set_option maxHeartbeats 4000000 in
theorem index_fgn (v0 : Value) (n : Nat) (bs : Nat → Int) (us : Nat → Value) (ls : Nat → Nat) (fs : Nat → Nat → BitVec 8) (w : World) (j p fi co : Nat) (nu : BitVec 64) (us9 : Nat) (bg : Bool) (F : Nat → Prop) (N : Nat) (A D : Nat → Nat → BitVec 8) (C : Nat) (hJ : JR j p fi co nu us9 bg F N A D C w) (hL : RLs v0 n bs us ls fs w) (hn : n ≤ 4398046511104) : Calls Tryd.prog 47 #[v0, .func (.func 24) #[.pointer (some ⟨j, 0, none⟩)] #[]] w fun e w' => ∃ r : Int, e = .returned (.int .i64 r) ∧ (0 ≤ r ↔ fgL fi co N n bs) ∧ Ext w w' := by
  obtain ⟨o, cap, rfl⟩ := hL.form
  replace hL := hideit hL
  replace hJ := hideit hJ
  go_enter Tryd.func47, Tryd.ntmps47
  go_wp2
  go_loopw [5, 8] (fun _ iv X => ∃ k : Nat, k ≤ n ∧ iv = .int .i64 (k : Int) ∧ (∀ i, i < k → fgB fi co N (bs i) = false) ∧ Ext w X) (fun _ iv _ => 5000000000000 - (intOf iv).toNat)
  case atStart => exact ⟨0, Nat.zero_le _, rfl, fun i hi => absurd hi (Nat.not_lt_zero _), Ext.refl _⟩
  case round =>
    obtain ⟨k, hk, rfl, hI, hE⟩ := hrel
    replace hI := hideit hI
    by_cases hlt : k < n
    · have k0 : (0 : Int) ≤ (k : Int) := by omega
      have k1 : (k : Int) < (n : Int) := by omega
      obtain ⟨a, rfl, hel⟩ := (hL.out.ext hE).at k hlt
      have ko := hideit (fgn_any (bs k) (us k) j p fi co nu us9 bg F N A D C wr (hJ.out.ext hE))
      replace hE := hideit hE
      go_upto_region 2 with (fail)
      refine wp_region_lit ?_
      refine wpList_run rfl (.bool true) (by simp [go_sem, k1]) ?_
      simp only [zp0, zp1, zp2, zp3]
      go_upto_region 3 with (fail)
      refine wp_region_lit ?_
      refine wpList_run rfl (.int .i64 (k : Int)) (by simp [go_sem]) ?_
      simp only [zp0, zp1, zp2, zp3]
      refine wpList_run rfl (.int .i64 (k : Int)) (by simp [go_sem]) ?_
      simp only [zp0, zp1, zp2, zp3]
      go_upto_region 4 with (fail)
      refine wp_region_lit ?_
      refine wpList_run rfl (.func (.func 24) #[.pointer (some ⟨j, 0, none⟩)] #[]) (by simp [go_sem]) ?_
      simp only [zp0, zp1, zp2, zp3]
      refine wpList_run rfl (.slice (some a) n cap) (by simp [go_sem]) ?_
      simp only [zp0, zp1, zp2, zp3]
      refine wpList_run rfl (.int .i64 (k : Int)) (by simp [go_sem]) ?_
      simp only [zp0, zp1, zp2, zp3]
      refine wpList_run rfl (.pointer (some (a.add (k * 2)))) (by simp [go_sem, k1]) ?_
      simp only [zp0, zp1, zp2, zp3]
      refine wpList_run rfl (.agg #[.int .i64 (bs k), us k]) (exec_loadL 47 (.tmp 14) rfl (a.add (k * 2)) 2 (rdC (fun _ => bs k) (fun _ => us k)) rfl hel Tryd.underlying47 rfl info51) ?_
      simp only [zp0, zp1, zp2, zp3]
      refine wpList_call rfl (by simp [go_sem]) ((ko.out).mono ?_)
      rintro e w9 ⟨rfl, hX9⟩
      refine ⟨_, rfl, ?_⟩
      simp only [zp0, zp1, zp2, zp3]
      have hE9 := hideit (Ext.trans hE.out hX9)
      clear ko hel hX9 hE
      cases h5 : fgB fi co N (bs k) with
      | false =>
        go_wp2
        refine ⟨⟨k + 1, by omega, by go_num, fun i hi => ?_, hE9.out⟩, by simp [intOf]; omega⟩
        by_cases e : i = k
        · rw [e]
          exact h5
        · exact hI.out i (by omega)
      | true =>
        go_wp2
        go_ret
        exact ⟨_, rfl, ⟨fun _ => ⟨k, hlt, h5⟩, fun _ => k0⟩, hE9.out⟩
    · obtain rfl : k = n := by omega
      have k1 : ¬ (k : Int) < (k : Int) := by omega
      replace hE := hideit hE
      go_wp2
      go_ret
      refine ⟨_, rfl, ⟨fun h => absurd h (by decide), fun ⟨i, hi, h⟩ => by rw [hI.out i hi] at h; cases h⟩, hE.out⟩
set_option maxRecDepth 20000 in
set_option maxHeartbeats 4000000 in
theorem contains_fgn (v0 : Value) (n : Nat) (bs : Nat → Int) (us : Nat → Value) (ls : Nat → Nat) (fs : Nat → Nat → BitVec 8) (w : World) (j p fi co : Nat) (nu : BitVec 64) (us9 : Nat) (bg : Bool) (F : Nat → Prop) (N : Nat) (A D : Nat → Nat → BitVec 8) (C : Nat) (hJ : JR j p fi co nu us9 bg F N A D C w) (hL : RLs v0 n bs us ls fs w) (hn : n ≤ 4398046511104) (b : Bool) (hb : b = true ↔ fgL fi co N n bs) : Calls Tryd.prog 23 #[v0, .func (.func 24) #[.pointer (some ⟨j, 0, none⟩)] #[]] w fun e w' => e = .returned (.bool b) ∧ Ext w w' := by
  have ki := hideit (index_fgn v0 n bs us ls fs w j p fi co nu us9 bg F N A D C hJ hL hn)
  replace hb := hideit hb
  clear hL hJ
  go_enter Tryd.func23, Tryd.ntmps23
  go_upto_region 1 with (fail)
  refine wp_region_lit ?_
  refine wpList_run rfl (v0) (by simp [go_sem]) ?_
  simp only [zp0, zp1, zp2, zp3]
  refine wpList_run rfl (.func (.func 24) #[.pointer (some ⟨j, 0, none⟩)] #[]) (by simp [go_sem]) ?_
  simp only [zp0, zp1, zp2, zp3]
  refine wpList_call rfl (by simp [go_sem]) ((ki.out).mono ?_)
  rintro e w9 ⟨r, rfl, hr, hX9⟩
  refine ⟨_, rfl, ?_⟩
  simp only [zp0, zp1, zp2, zp3]
  have hbr : Hid (decide (0 ≤ r) = b) := by
    show decide (0 ≤ r) = b
    cases b with
    | true => exact decide_eq_true (hr.2 (hb.out.1 rfl))
    | false => exact decide_eq_false fun h => by have := hb.out.2 (hr.1 h); cases this
  clear ki hr hb
  replace hX9 := hideit hX9
  refine wpList_run rfl (.bool (decide (0 ≤ r))) (by simp [go_sem]) ?_
  simp only [zp0, zp1, zp2, zp3]
  refine wpList_run rfl (.bool (decide (0 ≤ r))) (by simp [go_sem]) ?_
  simp only [zp0, zp1, zp2, zp3]
  go_wp2
  go_ret
  exact ⟨by rw [hbr.out]; rfl, hX9.out⟩
end Go.Proofs.YtiakkclabgelfaaDoor
