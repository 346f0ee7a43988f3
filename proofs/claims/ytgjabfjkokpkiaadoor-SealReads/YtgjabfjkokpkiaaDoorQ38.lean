/-
  AES and XTS with states packed into great numbers. What must come of every program. The document's ReadRoot.
-/
import Derived.Test.YtgjabfjkokpkiaaDoorQ37
import Derived.Test.YtgjabfjkokpkiaaDoorQ29
import Derived.Test.YtgjabfjkokpkiaaDoorQ26
import Derived.Test.YtgjabfjkokpkiaaDoorQ1
import Derived.Test.YtgjabfjkokpkiaaDoorQ33
import Derived.Test.YtgjabfjkokpkiaaDoorQ31
import Derived.Test.YtgjabfjkokpkiaaDoorQ30
import Derived.Test.YtgjabfjkokpkiaaDoorQ27
import Derived.Test.YtgjabfjkokpkiaaDoorQ9
namespace Go.Proofs.YtgjabfjkokpkiaaDoor
set_option linter.unusedVariables false
set_option maxRecDepth 20000
def tbN : Nat := 2869618975290639062594974519597816386035077209210385677284518162336985023502962151465775969507961862820568736543004676439868535775640188584098917533413284844376797297285941524888791401501466624530423689326528054213168201056672989590893583853414110162539122864583953358348775951166211353578440977400428507475679327181038682772945817200201960445064847785221508011893952350688324234443749897213621340677040612747745615276448919507935121141307752692835344166708617454322778699219895865633266409040561742768581056182730443599545881830075941537620590442514083341749674612746994879540562701631131184186066652929592955206755
def tdN : Nat := 29022917302579095964124461949858013542724473648904841737866655790348712823699949138665809059499827693295928210552345624834464780210271501149743171624365253056144549668571949842842198483757917673820358967127239403036664387516565901472030220598252923801785930419531446491996907423676964199699175720602385906879680083903485254308339209678552217320138528911198260519229634791478122061432032516214484371579815631342231930258222337365598820086254069662275554781838914121458546816731767637215947301122829170181878307081147920335390477421409014593779889526109499260042632138652359755563522403016050871885672224018346954457600
theorem tb_at : ∀ i, i < 256 → bxT i = un 8 tbN i := by decide +kernel
theorem td_at : ∀ i, i < 256 → twT i = un 8 tdN i := by decide +kernel
theorem wordAt_congr {k : Nat} {bx bx' S S' : Nat → BitVec 8} {p : Nat} {c : BitVec 8} {i : Nat} (hp : 1 ≤ p) (hb : ∀ i, i < 256 → bx i = bx' i) (h : ∀ j, j < 4 * p → S j = S' j) (hi : i < 4) : wordAt k bx p S c i = wordAt k bx' p S' c i := by
  unfold wordAt
  rw [h (4 * (p - 1) + 1) (by omega), h (4 * (p - 1) + (i + 1) % 4) (by omega), h (4 * (p - 1) + i) (by omega), hb _ (BitVec.isLt _), hb _ (BitVec.isLt _), hb _ (BitVec.isLt _)]
theorem wordK_s (k : Nat) (bx tw key : Nat → BitVec 8) (m : Nat) : wordK k bx tw key (m + 1) = (partS k (m + k) (wordAt k bx (m + k) (wordK k bx tw key m).1 (wordK k bx tw key m).2) (wordK k bx tw key m).1 4, if (m + k) % k = 0 then tw (wordK k bx tw key m).2.toNat else (wordK k bx tw key m).2) := rfl
def cl (j : Nat) : BitVec 8 := un 8 231591253185358139361287508513366743154153739607350358740519038575174831268338683899693442634220033 j
theorem cl_ok : cl 0 = 1#8 ∧ ∀ m, m < 40 → (if (m + 4) % 4 = 0 then twT (cl m).toNat else cl m) = cl (m + 1) := by decide +kernel
def okS (sl : Nat → BitVec 8) : Prop := ∀ m, m < 40 → ∀ i, i < 4 → xB (sl (4 * m + i)) (wordAt 4 (un 8 tbN) (m + 4) sl (cl m) i) = sl (16 + 4 * m + i)
theorem words_lit (key sl : Nat → BitVec 8) (h0 : ∀ j, j < 16 → key j = sl j) (hs : okS sl) : ∀ m, m ≤ 40 → (wordK 4 bxT twT key m).2 = cl m ∧ ∀ j, (wordK 4 bxT twT key m).1 j = if j < 16 + 4 * m then sl j else 0#8
  | 0, _ => ⟨cl_ok.1.symm, fun j => by
    show (if j < 16 then key j else 0#8) = if j < 16 then sl j else 0#8
    by_cases e : j < 16
    · rw [if_pos e, if_pos e, h0 j e]
    · rw [if_neg e, if_neg e]⟩
  | m + 1, hm => by
    obtain ⟨h1, h2⟩ := words_lit key sl h0 hs m (by omega)
    rw [wordK_s]
    refine ⟨?_, fun j => ?_⟩
    · show (if (m + 4) % 4 = 0 then twT (wordK 4 bxT twT key m).2.toNat else (wordK 4 bxT twT key m).2) = _
      rw [h1, cl_ok.2 m (by omega)]
    · show partS 4 (m + 4) (wordAt 4 bxT (m + 4) (wordK 4 bxT twT key m).1 (wordK 4 bxT twT key m).2) (wordK 4 bxT twT key m).1 4 j = _
      unfold partS
      by_cases hin : 4 * (m + 4) ≤ j ∧ j < 4 * (m + 4) + 4
      · obtain ⟨i, rfl⟩ : ∃ i, j = 16 + 4 * m + i := ⟨j - (16 + 4 * m), by omega⟩
        have hi : i < 4 := by omega
        rw [if_pos hin, if_pos (by omega), h2, if_pos (by omega), show 16 + 4 * m + i - 4 * 4 = 4 * m + i by omega, show 16 + 4 * m + i - 4 * (m + 4) = i by omega, h1,
          wordAt_congr (S' := sl) (by omega) tb_at (fun j hj => by rw [h2, if_pos (by omega)]) hi]
        exact hs m (by omega) i hi
      · rw [if_neg hin, h2]
        by_cases hlo : j < 16 + 4 * m
        · rw [if_pos hlo, if_pos (by omega)]
        · rw [if_neg hlo, if_neg (by omega)]
theorem sched_lit (key sl : Nat → BitVec 8) (h0 : ∀ j, j < 16 → key j = sl j) (hs : okS sl) (j : Nat) (hj : j < 176) : schedK 4 key j = sl j := by
  unfold schedK keyP
  rw [if_pos (by omega)]
  have h := (words_lit key sl h0 hs 40 (Nat.le_refl _)).2 j
  rw [if_pos (by omega)] at h
  exact h
theorem repl_tb (f : Nat → BitVec 8) : replF bxT f = replF (un 8 tbN) f := by
  funext j; exact tb_at _ (BitVec.isLt _)
theorem mix_td (f : Nat → BitVec 8) : mixF twT f = mixF (un 8 tdN) f := by
  funext j
  unfold mixF
  rw [td_at _ (BitVec.isLt _)]
def ekN (K f : Nat → BitVec 8) : Nat → Nat
  | 0 => pkW 8 (addF f (kF K 0)) 16
  | n + 1 => fk (ekN K f n) fun P => fk (pkW 8 (replF (un 8 tbN) (un 8 P)) 16) fun P => pkW 8 (addF (mixF (un 8 tdN) (turnF 1 (un 8 P))) (kF K (n + 1))) 16
theorem kF_at {K K' : Nat → BitVec 8} (hK : ∀ j, j < 176 → K j = K' j) {n j : Nat} (hn : n ≤ 10) (hj : j < 16) : kF K n j = kF K' n j := hK _ (by omega)
theorem Eq16.pk {f : Nat → BitVec 8} : Eq16 (un 8 (pkW 8 f 16)) f := fun j hj => pk_at hj
theorem ek_at {K K' : Nat → BitVec 8} (hK : ∀ j, j < 176 → K j = K' j) (f : Nat → BitVec 8) : ∀ n, n ≤ 10 → Eq16 (un 8 (ekN K f n)) (encK K' bxT twT f n)
  | 0, _ => fun j hj => by
    show un 8 (pkW 8 (addF f (kF K 0)) 16) j = addF f (kF K' 0) j
    rw [pk_at hj]
    unfold addF
    rw [kF_at hK (by omega) hj]
  | n + 1, hn => fun j hj => by
    have ih := ek_at hK f n (by omega)
    show un 8 (fk (ekN K f n) fun P => fk (pkW 8 (replF (un 8 tbN) (un 8 P)) 16) fun P => pkW 8 (addF (mixF (un 8 tdN) (turnF 1 (un 8 P))) (kF K (n + 1))) 16) j = addF (mixF twT (turnF 1 (replF bxT (encK K' bxT twT f n)))) (kF K' (n + 1)) j
    rw [fk_eq, fk_eq, pk_at hj, repl_tb, mix_td]
    unfold addF
    rw [kF_at hK (by omega) hj]
    congr 1
    exact (Eq16.mix (Eq16.turn (Eq16.pk.trans (Eq16.repl ih)))) j hj
def enN (K f : Nat → BitVec 8) : Nat := fk (ekN K f 9) fun P => fk (pkW 8 (replF (un 8 tbN) (un 8 P)) 16) fun P => pkW 8 (addF (turnF 1 (un 8 P)) (kF K 10)) 16
theorem en_at {K K' : Nat → BitVec 8} (hK : ∀ j, j < 176 → K j = K' j) (f : Nat → BitVec 8) : Eq16 (un 8 (enN K f)) (encF K' bxT twT 10 f) := fun j hj => by
  have ih := ek_at hK f 9 (by omega)
  unfold enN
  show _ = addF (turnF 1 (replF bxT (encK K' bxT twT f 9))) (kF K' 10) j
  rw [fk_eq, fk_eq, pk_at hj, repl_tb]
  unfold addF
  rw [kF_at hK (by omega) hj]
  congr 1
  exact (Eq16.turn (Eq16.pk.trans (Eq16.repl ih))) j hj
def twN (t : Nat) : Nat → Nat
  | 0 => t
  | n + 1 => fk (twN t n) fun x => (dX 135#128 (BitVec.ofNat 128 x)).toNat
theorem tw_at (t : BitVec 128) : ∀ n, twN t.toNat n = (dK 135#128 n t).toNat
  | 0 => rfl
  | n + 1 => by
    show (fk (twN t.toNat n) fun x => (dX 135#128 (BitVec.ofNat 128 x)).toNat) = (dX 135#128 (dK 135#128 n t)).toNat
    rw [fk_eq, tw_at t n, BitVec.ofNat_toNat, BitVec.setWidth_eq]
def cbN (K : Nat → BitVec 8) (t : Nat) (f : Nat → BitVec 8) : Nat := fk (pkW 8 (byBA (BitVec.ofNat 128 t)) 16) fun u => fk (pkW 8 (addF f (un 8 u)) 16) fun x => fk (enN K (un 8 x)) fun y => pkW 8 (addF (un 8 y) (un 8 u)) 16
theorem cb_at {K K' : Nat → BitVec 8} (hK : ∀ j, j < 176 → K j = K' j) (t : BitVec 128) (f : Nat → BitVec 8) : Rp 8 16 (cbN K t.toNat f) (chF (encF K' bxT twT 10) t f) := by
  have e1 : cbN K t.toNat f = pkW 8 (addF (un 8 (enN K (un 8 (pkW 8 (addF f (un 8 (pkW 8 (byBA t) 16))) 16)))) (un 8 (pkW 8 (byBA t) 16))) 16 := by
    unfold cbN
    rw [fk_eq, fk_eq, fk_eq, BitVec.ofNat_toNat, BitVec.setWidth_eq]
  rw [e1]
  obtain ⟨u, hu⟩ : ∃ u, u = un 8 (pkW 8 (byBA t) 16) := ⟨_, rfl⟩
  have hu2 : Eq16 u (byBA t) := by rw [hu]; exact Eq16.pk
  rw [← hu]
  obtain ⟨x, hx⟩ : ∃ x, x = un 8 (pkW 8 (addF f u) 16) := ⟨_, rfl⟩
  have hx2 : Eq16 x (addF f (byBA t)) := by rw [hx]; exact Eq16.pk.trans (fun j hj => by simp only [addF, hu2 j hj])
  rw [← hx]
  refine (pk_rp 8 _ 16).congr fun j hj => ?_
  have h1 : un 8 (enN K x) j = encF K' bxT twT 10 (addF f (byBA t)) j := ((en_at hK x).trans (encF_congr K' 10 hx2)) j hj
  show xB (un 8 (enN K x) j) (u j) = xB (encF K' bxT twT 10 (addF f (byBA t)) j) (byBA t j)
  rw [h1, hu2 j hj]
def ctN (K : Nat → BitVec 8) (t : Nat) (f : Nat → BitVec 8) : Nat → Nat
  | 0 => 0
  | n + 1 => fk (ctN K t f n) fun C => fk (twN t n) fun u => fk (cbN K u fun i => f (16 * n + i)) fun y => C + (y <<< (8 * (16 * n)))
theorem ct_at {K K' : Nat → BitVec 8} (hK : ∀ j, j < 176 → K j = K' j) (t : BitVec 128) (f : Nat → BitVec 8) : ∀ n, Rp 8 (16 * n) (ctN K t.toNat f n) (fronts (chF (encF K' bxT twT 10)) t f)
  | 0 => ⟨by show 0 < _; exact Nat.two_pow_pos _, fun i hi => by omega⟩
  | n + 1 => by
    show Rp 8 (16 * n + 16) (fk (ctN K t.toNat f n) fun C => fk (twN t.toNat n) fun u => fk (cbN K u fun i => f (16 * n + i)) fun y => C + (y <<< (8 * (16 * n)))) _
    rw [fk_eq, fk_eq, fk_eq, tw_at]
    refine ((ct_at hK t f n).app (cb_at hK (dK 135#128 n t) fun i => f (16 * n + i))).congr fun i hi => ?_
    by_cases e : i < 16 * n
    · rw [if_pos e]
    · rw [if_neg e]
      unfold fronts
      rw [show i / 16 = n by omega, show i - 16 * n = i % 16 by omega]
def t0N (S2 : Nat → BitVec 8) (u : BitVec 64) : Nat := fk (enN S2 (byBA (jn u 0#64))) fun y => (ofB (un 8 y)).toNat
theorem ofB_congr {f g : Nat → BitVec 8} (h : Eq16 f g) : ofB f = ofB g := by
  apply BitVec.eq_of_getLsbD_eq
  intro i hi
  rw [ofB_bit _ i hi, ofB_bit _ i hi, h _ (by omega)]
theorem t0_at {K K' : Nat → BitVec 8} (hK : ∀ j, j < 176 → K j = K' j) (u : BitVec 64) : t0N K u = (tw0 K' 10 u).toNat := by
  unfold t0N tw0
  rw [fk_eq, ofB_congr (en_at hK _)]
def seN (K1 K2 : Nat → BitVec 8) (n : Nat) (f : Nat → BitVec 8) : Nat := fk (t0N K2 (n4 n)) fun t => ctN K1 t f 32
theorem se_at {K1 K2 : Nat → BitVec 8} (D : Nat → BitVec 8) (h1 : ∀ j, j < 176 → K1 j = schedK 4 D j) (h2 : ∀ j, j < 176 → K2 j = schedK 4 (fun j => D (16 + j)) j) (n : Nat) (f : Nat → BitVec 8) : Rp 8 512 (seN K1 K2 n f) (seF D n f) := by
  unfold seN
  rw [fk_eq, t0_at h2]
  exact ct_at h1 _ f 32
def k1N : Nat := 1552120192744108989647540773065838004032805867019423998533757858761787382536710620570945922425649769509852518696875929513917338079391649589537670599001869141650786294931727984584346443542296633854795715461420472414850353188153677633934688586770526535561015067632252663520280184422540733439132875599882925113591651591351278823772768976527993628785465816361432314883515804230683435131484045423674214907489491747185847686922241
def k2N : Nat := 3931656747735336289686731911141149559873156607943383392995099628939350397322716108946254088502208169216945994970537439423481447079232365874428230588284509250423116800327523109966507492645298494130130520064712611628247889841483612170286794919673775202424575661503670117788305566134135571988798320046889748653099035164351982765355151821029549896571275085066050977238552809540481814290421177144128882304282824199539848994881536
def ctL : Nat := 757253891336253014082369743939894546511496656366076194181772903405870472339394444360516248386214778784378943552664342540057123969112617732450417865945802320953426333846525128704761798986196847749240265606391610586178337022167661688700323601369654428851950520197983238690620268278917985588568306416525842609580485354216376527588619116121927807741848655145394579388171397915057788455444133038983049249814176741093036737020822968355554745605076357077908683848766335081714791950787417148206455149832373470086630239632114323741431103195326114570669022791109325966643725143695423615748888391018959504423410744253000379199467014173303316788668988607576293783355005451641946579299589312160286857296527979500393735178310791639219702162290921611408173462557972215348709935615134363423060845771035982589570768088321493846704688818393541963917871693955081827615506342207854587305202241670806938317850244966455909248198247671085264535086931940545403007043544021563923009436926559423810408730978381478796944757443178204029696280834013403919932659517290086279889928408699471769912643359789763376793341079509184064356670822176172123966021300394308772187591014903029648020601114586932299163304935814841426276738129423485845763185324696511835829032409
def exD (j : Nat) : BitVec 8 := if j = 0 then 1#8 else 0#8
def exT (j : Nat) : BitVec 8 := if j = 0 then 2#8 else 0#8
def exX (j : Nat) : BitVec 8 := 120#8
instance (sl : Nat → BitVec 8) : Decidable (okS sl) := by unfold okS; infer_instance
theorem k1_ok : okS (un 8 k1N) := by decide +kernel
theorem k2_ok : okS (un 8 k2N) := by decide +kernel
theorem k1_0 : ∀ j, j < 16 → exD j = un 8 k1N j := by decide +kernel
theorem k2_0 : ∀ j, j < 16 → exD (16 + j) = un 8 k2N j := by decide +kernel
theorem ct_is : seN (un 8 k1N) (un 8 k2N) 5 exX = ctL := by decide +kernel
theorem ex_ct (j : Nat) (hj : j < 512) : seF exD 5 exX j = un 8 ctL j := by
  rw [← ct_is]
  exact ((se_at exD (fun j hj => (sched_lit exD _ k1_0 k1_ok j hj).symm) (fun j hj => (sched_lit _ _ k2_0 k2_ok j hj).symm) 5 exX).2 j hj).symm
theorem tg_ne : un 8 (tgN 32 exT (allF (rlS 512) (rbS 3 5 (un 8 ctL)) 4) 526) 0 ≠ un 8 (tgN 32 exT (allF (rlS 512) (rbS 3 6 (un 8 ctL)) 4) 526) 0 := by decide +kernel
theorem rt_congr (e n : Nat) (T f g : Nat → BitVec 8) (h : ∀ j, j < 512 → f j = g j) : rtF e n T f 512 = rtF e n T g 512 := by
  unfold rtF
  rw [show sumL (rlS 512) 4 = 526 from rfl]
  refine tagF_congr 32 T _ _ 526 fun j hj => ?_
  show catF (catF (catF (catF (fun _ => 0#8) 0 secF) 6 (numB e)) 10 (numB n)) 14 f j = catF (catF (catF (catF (fun _ => 0#8) 0 secF) 6 (numB e)) 10 (numB n)) 14 g j
  unfold catF
  by_cases q : j < 14
  · rw [if_pos q, if_pos q]
  · rw [if_neg q, if_neg q, h _ (by omega)]
theorem rc_ne : rcF 3 5 exT (seF exD 5 exX) 512 4 ≠ rcF 3 6 exT (seF exD 5 exX) 512 4 := by
  unfold rcF
  rw [if_neg (by decide), if_pos (by decide), if_neg (by decide), if_pos (by decide), rt_congr _ _ _ _ _ ex_ct, rt_congr _ _ _ _ _ ex_ct]
  unfold rtF
  rw [show sumL (rlS 512) 4 = 526 from rfl, ← tg_at _ _ _ _ _ (by decide), ← tg_at _ _ _ _ _ (by decide)]
  exact tg_ne
end Go.Proofs.YtgjabfjkokpkiaaDoor
namespace Go.Proofs.YtgjabfjkokpkiaaDoor
open Go.RowKit Go.BigFrame
set_option linter.unusedVariables false
set_option maxRecDepth 20000
def bS (l : Nat) (b : Nat → BitVec 8) : ByteArray := bstr l fun j => ((b j).toNat : Int)
theorem convS (v : Value) (l : Nat) (b : Nat → BitVec 8) (w : World) (h : BV v l b w) : (convert 22 9 v).run Tryd.prog w = .ok (.string (bS l b)) w := convV v l b w h
theorem bS_congr {l : Nat} {b c : Nat → BitVec 8} (h : ∀ j, j < l → b j = c j) : bS l b = bS l c := bstr_congr fun j hj => by rw [h j hj]
theorem zero50 (w : World) : (zeroValue 50).run Tryd.prog w = .ok (.agg (row 65 (ekV 0 (fun _ => 0#8) fun _ => 0#8)).toArray) w := by kernel_rfl
theorem blt1 (w : World) : (Instr.build 31 #[(0, .int .u8 1)]).run Tryd.prog w = .ok (.agg (row 32 (yv exD)).toArray) w := by kernel_rfl
theorem blt2 (w : World) : (Instr.build 31 #[(0, .int .u8 2)]).run Tryd.prog w = .ok (.agg (row 32 (yv exT)).toArray) w := by kernel_rfl
def exK (j : Nat) : BitVec 8 := if j = 0 then 7#8 else 0#8
theorem blt7 (w : World) : (Instr.build 31 #[(0, .int .u8 7)]).run Tryd.prog w = .ok (.agg (row 32 (yv exK)).toArray) w := by kernel_rfl
theorem bltk (w : World) : (Instr.build 50 #[(0, .int .i64 3), (1, .agg (row 32 (yv exD)).toArray), (2, .agg (row 32 (yv exT)).toArray)]).run Tryd.prog w = .ok (.agg (row 65 (ekV 3 exD exT)).toArray) w := by kernel_rfl
theorem bltr (w : World) : (Instr.build 39 #[(0, .int .u64 4)]).run Tryd.prog w = .ok (.agg (row 35 (rtV 4#64 false ((0 : Nat) : Int) fun _ => 0#8)).toArray) w := by kernel_rfl
def TBy (v : Value) (l : Nat) (f : Nat → BitVec 8) (X : World) : Prop := ∃ a c C m, v = .slice (some a) l c ∧ l ≤ c ∧ LieAt a l (yv f) X ∧ X.heap[a.block]? = some (.cells C 5 m)
theorem TBy.bv {v : Value} {l : Nat} {f : Nat → BitVec 8} {X : World} (h : TBy v l f X) : BV v l f X := by
  obtain ⟨a, c, C, m, h1, h2, h3, _⟩ := h
  exact .inr ⟨a, c, h1, h2, h3⟩
theorem TBy.mv {b0 : Nat} {v : Value} {l : Nat} {f : Nat → BitVec 8} {X Y : World} (h : TBy v l f X) (k : MvT b0 X Y) : TBy v l f Y := by
  obtain ⟨a, c, C, m, h1, h2, h3, h4⟩ := h
  obtain ⟨m', h5⟩ := mv_bytes k h4
  exact ⟨a, c, C, m', h1, h2, ⟨fun j hj => mv_cell k _ _ (h3.1 j hj), Nat.lt_of_lt_of_le h3.2 k.2.2.2.1⟩, h5⟩
theorem OwnB.tby {base : Nat} {v : Value} {l : Nat} {f : Nat → BitVec 8} {X : World} (h : OwnB base 5 v l (yv f) X) (hl : 0 < l) : TBy v l f X := by
  obtain ⟨b, cap, h1, _, h3, _, h5⟩ := h.lies hl
  rcases h.2 with ⟨_, h2⟩ | ⟨b', cap', cur, h6, _, hg, _⟩
  · omega
  · rw [h1] at h6
    injection h6 with h6
    injection h6 with h6
    injection h6 with h6
    subst h6
    exact ⟨⟨b, 0, none⟩, cap, _, _, h1, h3, RowAt.lie h5 l (Nat.le_refl _), hg⟩
theorem lie_set {a : Addr} {l p o : Nat} {g : Nat → Value} {X : World} {vs : List Value} (h : LieAt a l g X) (hp : a.block ≠ p) : LieAt a l g (X.setCells p o vs) :=
  h.but (But.sets vs o X (But.refl p X)) hp
def mkX (B t z : Nat) (Z : Array Value) (i : Nat) (v : Value) (X : World) : Prop :=
  if i = t then ∃ g, v = .slice (some ⟨g, 0, none⟩) 1 1 ∧ B ≤ g ∧ ∃ m, X.heap[g]? = some (.cells #[.int .u8 120] 5 m)
  else ∃ p, v = .pointer (some ⟨p, 0, none⟩) ∧ B ≤ p ∧ X.heap[p]? = some (.cells Z z (0, 0))
theorem mkX_cl (B t z : Nat) (Z : Array Value) (hz : z ≠ 5) (i : Nat) (v : Value) : Cl (MvT B) (mkX B t z Z i v) := fun X Y h k => by
  unfold mkX at h ⊢
  by_cases e : i = t
  · rw [if_pos e] at h ⊢
    obtain ⟨g, h1, h2, m, h3⟩ := h
    exact ⟨g, h1, h2, mv_bytes k h3⟩
  · rw [if_neg e] at h ⊢
    obtain ⟨p, h1, h2, h3⟩ := h
    exact ⟨p, h1, h2, mv_plain k hz h3⟩
theorem x_bv {X : World} {g : Nat} {m : Nat × Nat} (h : X.heap[g]? = some (.cells #[.int .u8 120] 5 m)) : BV (.slice (some ⟨g, 0, none⟩) 1 1) 1 exX X :=
  .inr ⟨⟨g, 0, none⟩, 1, rfl, Nat.le_refl _, fun j hj => by
    obtain rfl : j = 0 := by omega
    rw [add_off]
    unfold World.cell?
    simp only [h]
    rfl, (Array.getElem?_eq_some_iff.1 h).1⟩
theorem mv_row {b0 c n : Nat} {g : Nat → Value} {X Y : World} (h : RowAt c n g X) (k : MvT b0 X Y) : Y.rangeAt c 0 (row n g) := fun j x hx => by
  obtain ⟨hj, rfl⟩ := row_some hx
  rw [Nat.zero_add]
  exact mv_cell k _ _ (h.1 j hj)
theorem blk_x : blkF 1 exX = exX := rfl
theorem rc_ep : leN (rcF 3 5 exT (seF exD 5 exX) 512) 4 = n4 3 := leN_by _ 4 (by omega) (fun j hj => by unfold rcF; rw [if_pos hj]; rfl) (by decide)
theorem h9_ok : okH (hSe 9) := by
  unfold okH okA okP hSe
  decide
theorem ep_any (w : World) : Calls Tryd.prog 22 #[.agg (row 64 (yv (rcF 3 5 exT (seF exD 5 exX) 512))).toArray] w fun e w' => e = .returned (.tuple #[.int .i64 3, .int .i64 0]) ∧ Ext w w' := by
  have h := ep_ok (rcF 3 5 exT (seF exD 5 exX) 512) w (by rw [rc_ep]; decide)
  rw [rc_ep] at h
  exact h
theorem bs_eq : bS 512 (opF exD 5 (seF exD 5 exX)) = bS 512 exX := bS_congr fun j hj => op_se exD 5 exX j hj
set_option maxRecDepth 20000 in
set_option maxHeartbeats 4000000 in
theorem lives_any (w : World) (hC : TabC w) : Calls Tryd.prog 11 #[] w fun e w' => e = .returned (.bool true) ∧ Ext w w' := by
  have hE := hideit (Ext.refl w)
  go_enter Tryd.func11, Tryd.ntmps11
  go_upto_region 0 with (fail)
  refine wp_region_lit ?_
  refine xm [some (.bool false)] (by kernel_rfl) (by simp [xr, go_sem]) ?_
  simp only [xw, p0, p1, p2]
  go_upto_region 1 with (fail)
  refine wp_region_lit ?_
  refine wpList_run rfl (.agg (row 32 (yv exD)).toArray) (xbuild 31 [(0, .const (.int .u8 1))] rfl _ (blt1 _)) ?_
  simp only [zp0, zp1, zp2, zp3]
  refine wpList_run rfl (.agg (row 32 (yv exT)).toArray) (xbuild 31 [(0, .const (.int .u8 2))] rfl _ (blt2 _)) ?_
  simp only [zp0, zp1, zp2, zp3]
  refine wpList_run rfl (.agg (row 65 (ekV 3 exD exT)).toArray) (xbuild 50 [(0, .const (.int .i64 3)), (1, .tmp 15), (2, .tmp 16)] rfl _ (bltk _)) ?_
  simp only [zp0, zp1, zp2, zp3]
  have A0 := hideit (RowAt.new w 65 (ekV 0 (fun _ => 0#8) (fun _ => 0#8)) 50)
  have AE := hideit (Below.alloc hE.out (Below.size hE.out) (.cells (row 65 (ekV 0 (fun _ => 0#8) (fun _ => 0#8))).toArray 50))
  have AB := hideit (Below.size hE.out)
  refine wpList_to rfl (.pointer (some ⟨w.heap.size, 0, none⟩)) (w.alloc (.cells (row 65 (ekV 0 (fun _ => 0#8) (fun _ => 0#8))).toArray 50)) (xalloc 50 (row 65 (ekV 0 (fun _ => 0#8) (fun _ => 0#8))).toArray rfl (zero50 w)) ?_
  simp only [zp0, zp1, zp2, zp3]
  generalize w.alloc (.cells (row 65 (ekV 0 (fun _ => 0#8) (fun _ => 0#8))).toArray 50) = x2 at A0 AE ⊢
  obtain ⟨z1, ez1⟩ : ∃ b, b = w.heap.size := ⟨_, rfl⟩
  replace AB : Hid (w.heap.size ≤ z1) := by rw [ez1]; exact AB.out
  rw [← ez1] at A0  ⊢
  clear ez1
  have Hz1 := A0
  clear A0
  replace hE := AE
  clear AE
  have ABz1 := AB
  clear AB
  have N0 := hideit (Hz1.out.cells (g' := ekV 3 exD exT))
  have NE := hideit (below_setCells z1 (ABz1.out) (row 65 (ekV 3 exD exT)) 0 _ hE.out)
  refine xst rfl (x2.setCells z1 0 (row 65 (ekV 3 exD exT))) (xstore 50 (.tmp 1) (.tmp 17) rfl z1 65 _ (ekV 3 exD exT) rfl rfl Hz1.out inf50 (fun j _ => ek_one _ _ _ j)) ?_
  simp only [Act.put]
  generalize x2.setCells z1 0 (row 65 (ekV 3 exD exT)) = x3 at N0 NE ⊢
  replace Hz1 := N0
  replace hE := NE
  clear N0 NE
  obtain ⟨W, hW⟩ : ∃ W, W = x3.drew := ⟨_, rfl⟩
  have hYW : Ext x3 W := by rw [hW]; exact (Ext.refl _).draw
  have hEW := hideit (Ext.trans hE.out hYW)
  have K1 := hideit (Hz1.out.carry hYW)
  have TC := hideit (hC.ext hEW.out)
  clear Hz1 hE hYW
  go_upto_region 2 with (fail)
  refine wp_region_ladm (MvT W.heap.size) (fun X => MvT W.heap.size W X) (mkX W.heap.size 1 23 (row 64 (yv fun _ => 0#8)).toArray) [] [11] [(0, 0), (2, 1), (1, 2), (1, 3), (1, 4), (0, 5), (0, 6), (0, 7), (0, 8), (2, 9), (0, 10), (1, 11), (0, 12)] (by kernel_rfl) (by kernel_rfl) (by decide +kernel) (by decide +kernel) (by decide +kernel) (by decide +kernel) (mkX_cl _ _ _ _ (by decide)) (fun _ _ h k => mv_trans h k) (by rw [← hW]; exact mv_ext (Ext.refl _)) ?_
  refine wpQ_f _ (.agg (row 65 (ekV 3 exD exT)).toArray) rfl rfl (fun X hX => xload 50 (.tmp 1) rfl z1 0 65 _ rfl (mv_row K1.out hX) Tryd.underlying50 rfl inf50) ?_
  simp only [List.getElem_toArray, List.getElem_cons_zero, Act.put, List.setIfInBounds_toArray, List.set_cons_zero, List.set_cons_succ]
  refine wpQ_m _ rfl rfl (fun X hX => ⟨.slice (some ⟨X.heap.size, 0, none⟩) 1 1, X.alloc (.cells #[.int .u8 120] 5), by simp [go_sem], ⟨X.heap.size, rfl, hX.2.2.2.1, (0, 0), heap_new _ _ _⟩, mv_ext ((Below.refl _ _).alloc (Nat.le_refl _) _)⟩) ?_
  rintro v2 ⟨_, -, g2, rfl, -⟩
  simp only [zp4, zp5, zp6, zp0, zp1, zp2, zp3]
  refine wpQ_to _ rfl rfl fun X hX => ?_
  obtain ⟨hX1, g', f3, hg', m, hm⟩ := hX
  injection f3 with f3
  injection f3 with f3
  injection f3 with f3
  subst f3
  obtain ⟨Y, hcv, hmv⟩ := conv_mv (n := 1) hm hg'
  refine ⟨.slice (some ⟨g2, 0, none⟩) 1 1, Y, by simp [go_sem, hcv], fun Z => MvT W.heap.size W Z ∧ mkX W.heap.size 1 23 (row 64 (yv fun _ => 0#8)).toArray 1 (.slice (some ⟨g2, 0, none⟩) 1 1) Z, ⟨mv_trans hX1 hmv, mkX_cl _ _ _ _ (by decide) 1 _ _ _ ⟨g2, rfl, hg', m, hm⟩ hmv⟩, .inr (.inr ⟨fun Z hZ => hZ, hmv, fun A C hA k => ⟨mv_trans hA.1 k, mkX_cl _ _ _ _ (by decide) 1 _ _ _ hA.2 k⟩⟩), ?_⟩
  clear hcv hmv hm hX1
  simp only [zp4, zp5, zp6, zp0, zp1, zp2, zp3]
  refine wpQ_call _ rfl rfl (fun X hX => by simp [go_sem]) (fun X hX => (blk512_any (some ⟨g2, 0, none⟩) 1 1 exX X (by
    obtain ⟨hX1, g', f3, hg', m, hm⟩ := hX
    injection f3 with f3
    injection f3 with f3
    injection f3 with f3
    subst f3
    exact x_bv hm) (by decide)).mono ?_)
  rintro e3 X3 ⟨z3, rfl, hz3, hR3, hX3⟩
  rw [blk_x] at hR3
  refine ⟨_, rfl, fun Z => (MvT W.heap.size W Z ∧ mkX W.heap.size 1 23 (row 64 (yv fun _ => 0#8)).toArray 1 (.slice (some ⟨g2, 0, none⟩) 1 1) Z) ∧ BV (.slice (some ⟨z3, 0, none⟩) 512 512) 512 exX Z, ⟨⟨mv_trans hX.1 (mv_ext hX3), mkX_cl _ _ _ _ (by decide) 1 _ _ _ hX.2 (mv_ext hX3)⟩, .inr ⟨⟨z3, 0, none⟩, 512, rfl, Nat.le_refl _, RowAt.lie hR3 512 (Nat.le_refl _)⟩⟩, .inr (.inr ⟨fun Z hZ => hZ.1, mv_ext hX3, fun A C hA k => ⟨⟨mv_trans hA.1.1 k, mkX_cl _ _ _ _ (by decide) 1 _ _ _ hA.1.2 k⟩, hA.2.mv k⟩⟩), ?_⟩
  clear hz3 hR3 hX3
  simp only [zp4, zp5, zp6, zp0, zp1, zp2, zp3]
  refine wpQ_call _ rfl rfl (fun X hX => by simp [go_sem]) (fun X hX => (seal_ok 3 5 exD exT (.slice (some ⟨z3, 0, none⟩) 512 512) exX X hX.2 (TC.out.mv hX.1.1) (by decide) (by decide) (by decide)).mono ?_)
  rintro e4 X4 ⟨v4, rfl, hO4, hX4⟩
  refine ⟨_, rfl, fun Z => ((MvT W.heap.size W Z ∧ mkX W.heap.size 1 23 (row 64 (yv fun _ => 0#8)).toArray 1 (.slice (some ⟨g2, 0, none⟩) 1 1) Z) ∧ BV (.slice (some ⟨z3, 0, none⟩) 512 512) 512 exX Z) ∧ TBy v4 512 (seF exD 5 exX) Z, ⟨⟨⟨mv_trans hX.1.1 (mv_ext hX4), mkX_cl _ _ _ _ (by decide) 1 _ _ _ hX.1.2 (mv_ext hX4)⟩, hX.2.ext hX4⟩, hO4.tby (by decide)⟩, .inr (.inr ⟨fun Z hZ => hZ.1, mv_ext hX4, fun A C hA k => ⟨⟨⟨mv_trans hA.1.1.1 k, mkX_cl _ _ _ _ (by decide) 1 _ _ _ hA.1.1.2 k⟩, hA.1.2.mv k⟩, hA.2.mv k⟩⟩), ?_⟩
  clear hO4 hX4
  simp only [zp4, zp5, zp6, zp0, zp1, zp2, zp3]
  refine wpQ_f _ (.tuple #[v4, .agg (row 64 (yv (rcF 3 5 exT (seF exD 5 exX) 512))).toArray, .int .i64 0]) rfl rfl (fun X hX => by simp [go_sem]) ?_
  simp only [zp4, zp5, zp6, zp0, zp1, zp2, zp3]
  refine wpQ_f _ (v4) rfl rfl (fun X hX => by simp [go_sem]) ?_
  simp only [zp4, zp5, zp6, zp0, zp1, zp2, zp3]
  refine wpQ_f _ (.agg (row 64 (yv (rcF 3 5 exT (seF exD 5 exX) 512))).toArray) rfl rfl (fun X hX => by simp [go_sem]) ?_
  simp only [zp4, zp5, zp6, zp0, zp1, zp2, zp3]
  refine wpQ_f _ (.int .i64 0) rfl rfl (fun X hX => by simp [go_sem]) ?_
  simp only [zp4, zp5, zp6, zp0, zp1, zp2, zp3]
  refine wpQ_m _ rfl rfl (fun X hX => ⟨.pointer (some ⟨X.heap.size, 0, none⟩), X.alloc (.cells (row 64 (yv fun _ => 0#8)).toArray 23), xalloc 23 _ rfl (zero23 _), ⟨X.heap.size, rfl, hX.2.2.2.1, heap_new _ _ _⟩, mv_ext ((Below.refl _ _).alloc (Nat.le_refl _) _)⟩) ?_
  rintro v9 ⟨_, -, p, rfl, -⟩
  simp only [zp4, zp5, zp6, zp0, zp1, zp2, zp3]
  refine wpQ_f _ (v4) rfl rfl (fun X hX => by simp [go_sem]) ?_
  simp only [zp4, zp5, zp6, zp0, zp1, zp2, zp3]
  refine wpQ_st _ rfl rfl fun X hX => ?_
  obtain ⟨⟨hX8, hT⟩, p', f5, hp, hm⟩ := hX
  injection f5 with f5
  injection f5 with f5
  injection f5 with f5
  subst f5
  have EX : Ext W X := mv_back (Ext.refl W) (Nat.le_refl _) hX8.1.1
  have N0 := hideit ((row_heap hm).cells (g' := yv (rcF 3 5 exT (seF exD 5 exX) 512)))
  have NE := hideit (below_setCells p hp (row 64 (yv (rcF 3 5 exT (seF exD 5 exX) 512))) 0 _ EX)
  have NT : Hid (BV v4 512 (seF exD 5 exX) (X.setCells p 0 (row 64 (yv (rcF 3 5 exT (seF exD 5 exX) 512))))) := by
    obtain ⟨a, c, C, m, h1, h2, h3, h4⟩ := hT
    refine .inr ⟨a, c, h1, h2, lie_set h3 fun q => ?_⟩
    rw [q, hm] at h4
    injection h4 with h4
    injection h4 with _ h5
    cases h5
  refine ⟨X.setCells p 0 (row 64 (yv (rcF 3 5 exT (seF exD 5 exX) 512))), xstore 23 (.tmp 3) (.tmp 25) rfl p 64 _ (yv (rcF 3 5 exT (seF exD 5 exX) 512)) rfl rfl (row_heap hm) inf23 (fun _ _ => rfl), fun Y => Y = X.setCells p 0 (row 64 (yv (rcF 3 5 exT (seF exD 5 exX) 512))), rfl, .inr (.inl ⟨by simp, fun Z hZ => by rw [hZ]; exact mv_ext NE.out⟩), ?_⟩
  simp only [List.getElem_toArray, List.getElem_cons_zero, List.getElem_cons_succ, Act.put]
  refine wpQ_f _ (.int .i64 0) rfl rfl (fun X hX => by simp [go_sem]) ?_
  simp only [zp4, zp5, zp6, zp0, zp1, zp2, zp3]
  refine wpQ_nil fun Y hY => ?_
  rw [← hY] at N0 NE NT
  clear hY hm EX hX8 hX hT
  have hE := hideit (Ext.trans hEW.out NE.out)
  have K2 := hideit (K1.out.carry NE.out)
  have RP := N0
  clear N0 NE hEW K1 TC
  clear hW
  go_upto_region 3 with (fail)
  refine wp_region_lit ?_
  refine wpList_run rfl (.agg (row 65 (ekV 3 exD exT)).toArray) (xload 50 (.tmp 1) rfl z1 0 65 _ rfl K2.out.range Tryd.underlying50 rfl inf50) ?_
  simp only [zp0, zp1, zp2, zp3]
  refine xm [some (v4)] (by kernel_rfl) (by simp [xr, go_sem]) ?_
  simp only [xw, p0, p1, p2, p3]
  refine wpList_run rfl (.agg (row 64 (yv (rcF 3 5 exT (seF exD 5 exX) 512))).toArray) (xload 23 (.tmp 3) rfl p 0 64 _ rfl RP.out.range Tryd.underlying23 rfl inf23) ?_
  simp only [zp0, zp1, zp2, zp3]
  refine wpList_call rfl (by simp [go_sem]) ((open_yes 3 5 exD exT (rcF 3 5 exT (seF exD 5 exX) 512) v4 (seF exD 5 exX) Y NT.out (hC.ext hE.out) (by decide) (by decide) (by decide) (fun _ _ => rfl)).mono ?_)
  rintro e y5 ⟨v5, rfl, hO5, hX5⟩
  refine ⟨_, rfl, ?_⟩
  simp only [zp0, zp1, zp2, zp3]
  replace K2 := hideit (K2.out.carry hX5)
  replace RP := hideit (RP.out.carry hX5)
  replace NT := hideit (NT.out.ext hX5)
  replace hE := hideit (Ext.trans hE.out (hX5))
  have hB5 := hideit hO5.bv
  clear hX5 hO5
  have hY := hideit (Ext.refl y5)
  refine xm [some (.tuple #[v5, .int .i64 0]), some (v5), some (.int .i64 0), some (v5), some (.int .i64 0)] (by kernel_rfl) (by simp [xr, go_sem]) ?_
  simp only [xw, p0, p1, p2, p3]
  go_upto_region 4 with (fail)
  refine wp_region_lit ?_
  refine wpList_run rfl (.agg (row 65 (ekV 3 exD exT)).toArray) (xload 50 (.tmp 1) rfl z1 0 65 _ rfl K2.out.range Tryd.underlying50 rfl inf50) ?_
  simp only [zp0, zp1, zp2, zp3]
  refine xm [some (v4)] (by kernel_rfl) (by simp [xr, go_sem]) ?_
  simp only [xw, p0, p1, p2, p3]
  refine wpList_run rfl (.agg (row 64 (yv (rcF 3 5 exT (seF exD 5 exX) 512))).toArray) (xload 23 (.tmp 3) rfl p 0 64 _ rfl RP.out.range Tryd.underlying23 rfl inf23) ?_
  simp only [zp0, zp1, zp2, zp3]
  refine wpList_call rfl (by simp [go_sem]) ((open_no 3 6 exD exT (rcF 3 5 exT (seF exD 5 exX) 512) v4 (seF exD 5 exX) y5 (NT.out.ext hY.out) (hC.ext (Ext.trans hE.out hY.out)) (by decide) (by decide) (by decide) (fun q => rc_ne (q 4 (by decide)))).mono ?_)
  rintro e y6 ⟨rfl, hX6⟩
  refine ⟨_, rfl, ?_⟩
  simp only [zp0, zp1, zp2, zp3]
  replace K2 := hideit (K2.out.carry hX6)
  replace RP := hideit (RP.out.carry hX6)
  replace hY := hideit (Ext.trans hY.out (hX6))
  clear hX6
  refine xm [some (.tuple #[.slice none 0 0, .int .i64 160]), some (.slice none 0 0), some (.int .i64 160), some (.slice none 0 0), some (.int .i64 160)] (by kernel_rfl) (by simp [xr, go_sem]) ?_
  simp only [xw, p0, p1, p2, p3]
  go_upto_region 5 with (fail)
  refine wp_region_lit ?_
  refine wpList_run rfl (.agg (row 64 (yv (rcF 3 5 exT (seF exD 5 exX) 512))).toArray) (xload 23 (.tmp 3) rfl p 0 64 _ rfl RP.out.range Tryd.underlying23 rfl inf23) ?_
  simp only [zp0, zp1, zp2, zp3]
  refine wpList_call rfl (by simp [go_sem]) ((ep_any y6).mono ?_)
  rintro e y7 ⟨rfl, hX7⟩
  refine ⟨_, rfl, ?_⟩
  simp only [zp0, zp1, zp2, zp3]
  replace K2 := hideit (K2.out.carry hX7)
  replace RP := hideit (RP.out.carry hX7)
  replace hY := hideit (Ext.trans hY.out (hX7))
  clear hX7
  refine xm [some (.tuple #[.int .i64 3, .int .i64 0]), some (.int .i64 3), some (.int .i64 0), some (.int .i64 3), some (.int .i64 0)] (by kernel_rfl) (by simp [xr, go_sem]) ?_
  simp only [xw, p0, p1, p2, p3]
  go_upto_region 6 with (fail)
  refine wp_region_lit ?_
  refine wpList_run rfl (.agg (row 32 (yv exK)).toArray) (xbuild 31 [(0, .const (.int .u8 7))] rfl _ (blt7 _)) ?_
  simp only [zp0, zp1, zp2, zp3]
  refine wpList_call rfl (by simp [go_sem]) ((head_any 9 y7).mono ?_)
  rintro e y4 ⟨rfl, hX5⟩
  refine ⟨_, rfl, ?_⟩
  simp only [zp0, zp1, zp2, zp3]
  replace K2 := hideit (K2.out.carry hX5)
  replace RP := hideit (RP.out.carry hX5)
  replace hY := hideit (Ext.trans hY.out (hX5))
  clear hX5
  refine wpList_run rfl (.agg (row 35 (rtV 4#64 false ((0 : Nat) : Int) (fun _ => 0#8))).toArray) (xbuild 39 [(0, .const (.int .u64 4))] rfl _ (bltr _)) ?_
  simp only [zp0, zp1, zp2, zp3]
  refine wpList_call rfl (by simp [go_sem]) ((rb12_ok exK (hSe 9) 4#64 false 0 (fun _ => 0#8) y4 (hC.ext (Ext.trans hE.out hY.out)) h9_ok (by decide) (by decide)).mono ?_)
  rintro e y8 ⟨x8, rfl, _, hR8, hX8⟩
  refine ⟨_, rfl, ?_⟩
  simp only [zp0, zp1, zp2, zp3]
  replace K2 := hideit (K2.out.carry hX8)
  replace RP := hideit (RP.out.carry hX8)
  replace hY := hideit (Ext.trans hY.out (hX8))
  have hB8 : Hid (BV (.slice (some ⟨x8, 0, none⟩) 512 512) 512 (rkF exK (hSe 9) 4#64 false 0 fun _ => 0#8) y8) := .inr ⟨⟨x8, 0, none⟩, 512, rfl, Nat.le_refl _, RowAt.lie hR8 512 (Nat.le_refl _)⟩
  clear hX8 hR8
  refine xm [some (.tuple #[.slice (some ⟨x8, 0, none⟩) 512 512, .int .i64 0]), some (.slice (some ⟨x8, 0, none⟩) 512 512), some (.int .i64 0), some (.slice (some ⟨x8, 0, none⟩) 512 512), some (.int .i64 0)] (by kernel_rfl) (by simp [xr, go_sem]) ?_
  simp only [xw, p0, p1, p2, p3]
  go_upto_region 7 with (fail)
  refine wp_region_lit ?_
  refine wpList_run rfl (.agg (row 32 (yv exK)).toArray) (xbuild 31 [(0, .const (.int .u8 7))] rfl _ (blt7 _)) ?_
  simp only [zp0, zp1, zp2, zp3]
  refine wpList_call rfl (by simp [go_sem]) ((head_any 9 y8).mono ?_)
  rintro e y6 ⟨rfl, hX7⟩
  refine ⟨_, rfl, ?_⟩
  simp only [zp0, zp1, zp2, zp3]
  replace K2 := hideit (K2.out.carry hX7)
  replace RP := hideit (RP.out.carry hX7)
  replace hB8 := hideit (hB8.out.ext hX7)
  replace hY := hideit (Ext.trans hY.out (hX7))
  clear hX7
  refine xm [some (.slice (some ⟨x8, 0, none⟩) 512 512)] (by kernel_rfl) (by simp [xr, go_sem]) ?_
  simp only [xw, p0, p1, p2, p3]
  refine wpList_call rfl (by simp [go_sem]) ((rr_yes exK (hSe 9) (.slice (some ⟨x8, 0, none⟩) 512 512) 512 (rkF exK (hSe 9) 4#64 false 0 fun _ => 0#8) y6 hB8.out (hC.ext (Ext.trans hE.out hY.out)) (by decide) h9_ok 4#64 false 0 (fun _ => 0#8) (by decide) ⟨by decide, rfl, fun _ _ => rfl⟩).mono ?_)
  rintro e y9 ⟨rfl, hX9⟩
  refine ⟨_, rfl, ?_⟩
  simp only [zp0, zp1, zp2, zp3]
  replace K2 := hideit (K2.out.carry hX9)
  replace RP := hideit (RP.out.carry hX9)
  replace hY := hideit (Ext.trans hY.out (hX9))
  clear hX9 hB8
  refine xm [some (.tuple #[.agg (row 35 (rtV 4#64 false ((0 : Nat) : Int) (fun _ => 0#8))).toArray, .int .i64 0]), some (.agg (row 35 (rtV 4#64 false ((0 : Nat) : Int) (fun _ => 0#8))).toArray), some (.int .i64 0)] (by kernel_rfl) (by simp [xr, go_sem]) ?_
  simp only [xw, p0, p1, p2, p3]
  have A0 := hideit (RowAt.new y9 35 (rtV 0#64 false 0 (fun _ => 0#8)) 39)
  have A1 := hideit (K2.out.alloc (.cells (row 35 (rtV 0#64 false 0 (fun _ => 0#8))).toArray 39))
  have A2 := hideit (RP.out.alloc (.cells (row 35 (rtV 0#64 false 0 (fun _ => 0#8))).toArray 39))
  have AE := hideit (Below.alloc hY.out (Below.size hY.out) (.cells (row 35 (rtV 0#64 false 0 (fun _ => 0#8))).toArray 39))
  have AB := hideit (Below.size hY.out)
  have D0 : Hid (z1 ≠ y9.heap.size) := Nat.ne_of_lt K2.out.2.2
  have D1 : Hid (p ≠ y9.heap.size) := Nat.ne_of_lt RP.out.2.2
  refine wpList_to rfl (.pointer (some ⟨y9.heap.size, 0, none⟩)) (y9.alloc (.cells (row 35 (rtV 0#64 false 0 (fun _ => 0#8))).toArray 39)) (xalloc 39 (row 35 (rtV 0#64 false 0 (fun _ => 0#8))).toArray rfl (zero39 y9)) ?_
  simp only [zp0, zp1, zp2, zp3]
  generalize y9.alloc (.cells (row 35 (rtV 0#64 false 0 (fun _ => 0#8))).toArray 39) = x9 at A0 A1 A2 AE ⊢
  obtain ⟨z8, ez8⟩ : ∃ b, b = y9.heap.size := ⟨_, rfl⟩
  replace AB : Hid (y5.heap.size ≤ z8) := by rw [ez8]; exact AB.out
  rw [← ez8] at A0 D0 D1 ⊢
  clear ez8
  have Hz8 := A0
  clear A0
  replace K2 := A1
  clear A1
  replace RP := A2
  clear A2
  replace hY := AE
  clear AE
  have ABz8 := AB
  clear AB
  have Dz8_0 := D0
  clear D0
  have Dz8_1 := D1
  clear D1
  have N0 := hideit (Hz8.out.cells (g' := rtV 4#64 false ((0 : Nat) : Int) (fun _ => 0#8)))
  have N1 := hideit (K2.out.cellsOther (Ne.symm (Dz8_0.out)) (row 35 (rtV 4#64 false ((0 : Nat) : Int) (fun _ => 0#8))) 0)
  have N2 := hideit (RP.out.cellsOther (Ne.symm (Dz8_1.out)) (row 35 (rtV 4#64 false ((0 : Nat) : Int) (fun _ => 0#8))) 0)
  have NE := hideit (below_setCells z8 (ABz8.out) (row 35 (rtV 4#64 false ((0 : Nat) : Int) (fun _ => 0#8))) 0 _ hY.out)
  refine xst rfl (x9.setCells z8 0 (row 35 (rtV 4#64 false ((0 : Nat) : Int) (fun _ => 0#8)))) (xstore 39 (.tmp 13) (.tmp 58) rfl z8 35 _ (rtV 4#64 false ((0 : Nat) : Int) (fun _ => 0#8)) rfl rfl Hz8.out inf39 (fun j _ => rt_one _ _ _ _ j)) ?_
  simp only [Act.put]
  generalize x9.setCells z8 0 (row 35 (rtV 4#64 false ((0 : Nat) : Int) (fun _ => 0#8))) = x10 at N0 N1 N2 NE ⊢
  replace Hz8 := N0
  replace K2 := N1
  replace RP := N2
  replace hY := NE
  clear N0 N1 N2 NE
  refine xm [some (.int .i64 0)] (by kernel_rfl) (by simp [xr, go_sem]) ?_
  simp only [xw, p0, p1, p2, p3]
  obtain ⟨V, hV⟩ : ∃ V, V = x10.drew := ⟨_, rfl⟩
  have hYV : Ext x10 V := by rw [hV]; exact (Ext.refl _).draw
  have hEV := hideit (Ext.trans (Ext.trans hE.out hY.out) hYV)
  have Z1 := hideit (Hz8.out.carry hYV)
  have B5 := hideit (hB5.out.ext (Ext.trans hY.out hYV))
  clear hE hY hYV
  go_upto_region 8 with (fail)
  refine wp_region_ladm (MvT V.heap.size) (fun X => MvT V.heap.size V X) (mkX V.heap.size 29 999 #[]) [] [] [(0, 0), (0, 1), (0, 2), (0, 3), (0, 4), (0, 5), (0, 6), (0, 7), (0, 8), (0, 9), (0, 10), (0, 11), (0, 12), (0, 13), (0, 14), (0, 15), (0, 16), (0, 17), (0, 18), (0, 19), (0, 20), (0, 21), (0, 22), (0, 23), (0, 24), (0, 25), (0, 26), (0, 27), (0, 28), (2, 29), (1, 30), (1, 31), (3, 32), (0, 33), (0, 34), (0, 35), (0, 36), (0, 37), (0, 38), (0, 39), (0, 40)] (by kernel_rfl) (by kernel_rfl) (by decide +kernel) (by decide +kernel) (by decide +kernel) (by decide +kernel) (mkX_cl _ _ _ _ (by decide)) (fun _ _ h k => mv_trans h k) (by rw [← hV]; exact mv_ext (Ext.refl _)) ?_
  refine wpQ_f _ (.int .i64 0) rfl rfl (fun X hX => by simp [go_sem]) ?_
  simp only [List.getElem_toArray, List.getElem_cons_zero, Act.put, List.setIfInBounds_toArray, List.set_cons_zero, List.set_cons_succ]
  refine wpQ_f _ (.bool true) rfl rfl (fun X hX => by simp [go_sem]) ?_
  simp only [zp4, zp5, zp6, zp0, zp1, zp2, zp3]
  refine wpQ_f _ (.bool true) rfl rfl (fun X hX => by simp [go_sem]) ?_
  simp only [zp4, zp5, zp6, zp0, zp1, zp2, zp3]
  refine wpQ_f _ (.int .i64 0) rfl rfl (fun X hX => by simp [go_sem]) ?_
  simp only [zp4, zp5, zp6, zp0, zp1, zp2, zp3]
  refine wpQ_f _ (.bool true) rfl rfl (fun X hX => by simp [go_sem]) ?_
  simp only [zp4, zp5, zp6, zp0, zp1, zp2, zp3]
  refine wpQ_f _ (.bool true) rfl rfl (fun X hX => by simp [go_sem]) ?_
  simp only [zp4, zp5, zp6, zp0, zp1, zp2, zp3]
  refine wpQ_f _ (.bool true) rfl rfl (fun X hX => by simp [go_sem]) ?_
  simp only [zp4, zp5, zp6, zp0, zp1, zp2, zp3]
  refine wpQ_f _ (.int .i64 160) rfl rfl (fun X hX => by simp [go_sem]) ?_
  simp only [zp4, zp5, zp6, zp0, zp1, zp2, zp3]
  refine wpQ_f _ (.bool true) rfl rfl (fun X hX => by simp [go_sem]) ?_
  simp only [zp4, zp5, zp6, zp0, zp1, zp2, zp3]
  refine wpQ_f _ (.bool true) rfl rfl (fun X hX => by simp [go_sem]) ?_
  simp only [zp4, zp5, zp6, zp0, zp1, zp2, zp3]
  refine wpQ_f _ (.bool true) rfl rfl (fun X hX => by simp [go_sem]) ?_
  simp only [zp4, zp5, zp6, zp0, zp1, zp2, zp3]
  refine wpQ_f _ (.int .i64 0) rfl rfl (fun X hX => by simp [go_sem]) ?_
  simp only [zp4, zp5, zp6, zp0, zp1, zp2, zp3]
  refine wpQ_f _ (.bool true) rfl rfl (fun X hX => by simp [go_sem]) ?_
  simp only [zp4, zp5, zp6, zp0, zp1, zp2, zp3]
  refine wpQ_f _ (.bool true) rfl rfl (fun X hX => by simp [go_sem]) ?_
  simp only [zp4, zp5, zp6, zp0, zp1, zp2, zp3]
  refine wpQ_f _ (.bool true) rfl rfl (fun X hX => by simp [go_sem]) ?_
  simp only [zp4, zp5, zp6, zp0, zp1, zp2, zp3]
  refine wpQ_f _ (.int .i64 0) rfl rfl (fun X hX => by simp [go_sem]) ?_
  simp only [zp4, zp5, zp6, zp0, zp1, zp2, zp3]
  refine wpQ_f _ (.bool true) rfl rfl (fun X hX => by simp [go_sem]) ?_
  simp only [zp4, zp5, zp6, zp0, zp1, zp2, zp3]
  refine wpQ_f _ (.bool true) rfl rfl (fun X hX => by simp [go_sem]) ?_
  simp only [zp4, zp5, zp6, zp0, zp1, zp2, zp3]
  refine wpQ_f _ (.bool true) rfl rfl (fun X hX => by simp [go_sem]) ?_
  simp only [zp4, zp5, zp6, zp0, zp1, zp2, zp3]
  refine wpQ_f _ (.int .i64 0) rfl rfl (fun X hX => by simp [go_sem]) ?_
  simp only [zp4, zp5, zp6, zp0, zp1, zp2, zp3]
  refine wpQ_f _ (.bool true) rfl rfl (fun X hX => by simp [go_sem]) ?_
  simp only [zp4, zp5, zp6, zp0, zp1, zp2, zp3]
  refine wpQ_f _ (.bool true) rfl rfl (fun X hX => by simp [go_sem]) ?_
  simp only [zp4, zp5, zp6, zp0, zp1, zp2, zp3]
  refine wpQ_f _ (.bool true) rfl rfl (fun X hX => by simp [go_sem]) ?_
  simp only [zp4, zp5, zp6, zp0, zp1, zp2, zp3]
  refine wpQ_f _ (.int .i64 3) rfl rfl (fun X hX => by simp [go_sem]) ?_
  simp only [zp4, zp5, zp6, zp0, zp1, zp2, zp3]
  refine wpQ_f _ (.bool true) rfl rfl (fun X hX => by simp [go_sem]) ?_
  simp only [zp4, zp5, zp6, zp0, zp1, zp2, zp3]
  refine wpQ_f _ (.bool true) rfl rfl (fun X hX => by simp [go_sem]) ?_
  simp only [zp4, zp5, zp6, zp0, zp1, zp2, zp3]
  refine wpQ_f _ (.bool true) rfl rfl (fun X hX => by simp [go_sem]) ?_
  simp only [zp4, zp5, zp6, zp0, zp1, zp2, zp3]
  refine wpQ_f _ (v5) rfl rfl (fun X hX => by simp [go_sem]) ?_
  simp only [zp4, zp5, zp6, zp0, zp1, zp2, zp3]
  refine wpQ_f _ (.string (bS 512 (opF exD 5 (seF exD 5 exX)))) rfl rfl (fun X hX => by have cv := convS v5 512 (opF exD 5 (seF exD 5 exX)) X (B5.out.mv hX); simp [go_sem, cv]) ?_
  simp only [zp4, zp5, zp6, zp0, zp1, zp2, zp3]
  refine wpQ_m _ rfl rfl (fun X hX => ⟨.slice (some ⟨X.heap.size, 0, none⟩) 1 1, X.alloc (.cells #[.int .u8 120] 5), by simp [go_sem], ⟨X.heap.size, rfl, hX.2.2.2.1, (0, 0), heap_new _ _ _⟩, mv_ext ((Below.refl _ _).alloc (Nat.le_refl _) _)⟩) ?_
  rintro v29 ⟨_, -, g9, rfl, -⟩
  simp only [zp4, zp5, zp6, zp0, zp1, zp2, zp3]
  refine wpQ_to _ rfl rfl fun X hX => ?_
  obtain ⟨hX1, g', f3, hg', m, hm⟩ := hX
  injection f3 with f3
  injection f3 with f3
  injection f3 with f3
  subst f3
  obtain ⟨Y9, hcv, hmv⟩ := conv_mv (n := 1) hm hg'
  refine ⟨.slice (some ⟨g9, 0, none⟩) 1 1, Y9, by simp [go_sem, hcv], fun Z => MvT V.heap.size V Z ∧ mkX V.heap.size 29 999 #[] 29 (.slice (some ⟨g9, 0, none⟩) 1 1) Z, ⟨mv_trans hX1 hmv, mkX_cl _ _ _ _ (by decide) 29 _ _ _ ⟨g9, rfl, hg', m, hm⟩ hmv⟩, .inr (.inr ⟨fun Z hZ => hZ, hmv, fun A C hA k => ⟨mv_trans hA.1 k, mkX_cl _ _ _ _ (by decide) 29 _ _ _ hA.2 k⟩⟩), ?_⟩
  clear hcv hmv hm hX1
  simp only [zp4, zp5, zp6, zp0, zp1, zp2, zp3]
  refine wpQ_call _ rfl rfl (fun X hX => by simp [go_sem]) (fun X hX => (blk512_any (some ⟨g9, 0, none⟩) 1 1 exX X (by
    obtain ⟨hX1, g', f3, hg', m, hm⟩ := hX
    injection f3 with f3
    injection f3 with f3
    injection f3 with f3
    subst f3
    exact x_bv hm) (by decide)).mono ?_)
  rintro e3 X3 ⟨z3, rfl, hz3, hR3, hX3⟩
  rw [blk_x] at hR3
  refine ⟨_, rfl, fun Z => (MvT V.heap.size V Z ∧ mkX V.heap.size 29 999 #[] 29 (.slice (some ⟨g9, 0, none⟩) 1 1) Z) ∧ BV (.slice (some ⟨z3, 0, none⟩) 512 512) 512 exX Z, ⟨⟨mv_trans hX.1 (mv_ext hX3), mkX_cl _ _ _ _ (by decide) 29 _ _ _ hX.2 (mv_ext hX3)⟩, .inr ⟨⟨z3, 0, none⟩, 512, rfl, Nat.le_refl _, RowAt.lie hR3 512 (Nat.le_refl _)⟩⟩, .inr (.inr ⟨fun Z hZ => hZ.1, mv_ext hX3, fun A C hA k => ⟨⟨mv_trans hA.1.1 k, mkX_cl _ _ _ _ (by decide) 29 _ _ _ hA.1.2 k⟩, hA.2.mv k⟩⟩), ?_⟩
  clear hz3 hR3 hX3
  simp only [zp4, zp5, zp6, zp0, zp1, zp2, zp3]
  refine wpQ_g _ (.string (bS 512 exX)) rfl rfl (fun X hX => by have cv := convS (.slice (some ⟨z3, 0, none⟩) 512 512) 512 exX X hX.2; simp [go_sem, cv]) ?_
  simp only [zp4, zp5, zp6, zp0, zp1, zp2, zp3]
  refine wpQ_f _ (.bool true) rfl rfl (fun X hX => by simp [go_sem, bs_eq]) ?_
  simp only [zp4, zp5, zp6, zp0, zp1, zp2, zp3]
  refine wpQ_f _ (.bool true) rfl rfl (fun X hX => by simp [go_sem]) ?_
  simp only [zp4, zp5, zp6, zp0, zp1, zp2, zp3]
  refine wpQ_f _ (.bool true) rfl rfl (fun X hX => by simp [go_sem]) ?_
  simp only [zp4, zp5, zp6, zp0, zp1, zp2, zp3]
  refine wpQ_f _ (.pointer (some ⟨z8, 0, none⟩)) rfl rfl (fun X hX => by simp [go_sem]) ?_
  simp only [zp4, zp5, zp6, zp0, zp1, zp2, zp3]
  refine wpQ_f _ (.int .u64 (((4#64).toNat : Int))) rfl rfl (fun X hX => by have q : X.cell? ⟨z8, 0, none⟩ = some (.int .u64 ((4#64).toNat : Int)) := mv_cell hX _ _ (Z1.out.1 0 (by decide)); simp [go_sem, q]) ?_
  simp only [zp4, zp5, zp6, zp0, zp1, zp2, zp3]
  refine wpQ_f _ (.bool true) rfl rfl (fun X hX => by simp [go_sem]) ?_
  simp only [zp4, zp5, zp6, zp0, zp1, zp2, zp3]
  refine wpQ_f _ (.bool true) rfl rfl (fun X hX => by simp [go_sem]) ?_
  simp only [zp4, zp5, zp6, zp0, zp1, zp2, zp3]
  refine wpQ_f _ (.bool true) rfl rfl (fun X hX => by simp [go_sem]) ?_
  simp only [List.getElem_toArray, List.getElem_cons_zero, List.getElem_cons_succ, Act.put, List.setIfInBounds_toArray, List.set_cons_zero]
  refine wpQ_nil fun Y hY => ?_
  have hE := hideit (Ext.trans hEV.out (mv_back (Ext.refl V) (Nat.le_refl _) hY.1.1))
  clear hY
  go_wp2
  go_ret
  exact ⟨rfl, hE.out⟩
end Go.Proofs.YtgjabfjkokpkiaaDoor
namespace Go.Proofs.YtgjabfjkokpkiaaDoor
open Go.RowKit Go.BigFrame
set_option linter.unusedVariables false
set_option maxRecDepth 20000
theorem exec_eq1 {o : Oper} {a : Act} {w : World} (x : Nat) (ho : o.op = .binOp .eql 5 (.tmp x) (.const (.int .u8 1)) 5) (u : BitVec 8) (hx : a.eval (.tmp x) = .int .u8 (u.toNat : Int)) : (execOp a.eval o).run Tryd.prog w = .ok (.value (.bool (decide (u = 1#8)))) w := by
  have hx2 : a.tmps[x]?.getD undef = .int .u8 (u.toNat : Int) := by rw [← hx]; simp [go_sem]
  by_cases k : u = 1#8
  · subst k
    simp [ho, hx2, go_sem]
  · have k3 : ¬ u.toNat = 1 := fun q => k (BitVec.eq_of_toNat_eq (by simpa using q))
    have k4 : ¬ (u.toNat : Int) = 1 := by omega
    simp [ho, hx2, go_sem, k, k4]
theorem nK_or (f : Nat → BitVec 8) (i : Nat) (hi : i < 4) : bits .or .i64 ((leS f i : Nat) : Int) (((f i).toNat * 2 ^ (8 * i) : Nat) : Int) = ((leS f (i + 1) : Nat) : Int) := by
  have h1 := (leN_nat f i (by omega)).2
  have h2 := (f i).isLt
  have hp : 2 ^ (8 * (i + 1)) = 256 * 2 ^ (8 * i) := by rw [show 8 * (i + 1) = 8 + 8 * i by omega, Nat.pow_add]
  have h5 : (f i).toNat * 2 ^ (8 * i) < 2 ^ (8 * (i + 1)) := by rw [hp]; exact Nat.mul_lt_mul_of_pos_right h2 (Nat.two_pow_pos _)
  have h6 : 2 ^ (8 * (i + 1)) ≤ 2 ^ 32 := Nat.pow_le_pow_right (by decide) (by omega)
  have h7 : 2 ^ (8 * i) ≤ 2 ^ 32 := Nat.pow_le_pow_right (by decide) (by omega)
  rw [or_nat _ _ (by omega) (by omega)]
  show _ = ((leS f i + (f i).toNat * 2 ^ (8 * i) : Nat) : Int)
  congr 1
  rw [Nat.or_comm, Nat.mul_comm, ← Nat.two_pow_add_eq_or_of_lt h1, Nat.add_comm]
theorem cnt_or (f : Nat → BitVec 8) (i : Nat) (hi : i < 8) : bits .or .u64 ((leN f i).toNat : Int) (((f i).toNat * 2 ^ (8 * i) : Nat) : Int) = ((leN f (i + 1)).toNat : Int) := by
  obtain ⟨g1, h1⟩ := leN_nat f i (by omega)
  obtain ⟨g2, h3⟩ := leN_nat f (i + 1) (by omega)
  have h2 := (f i).isLt
  have hp : 2 ^ (8 * (i + 1)) = 256 * 2 ^ (8 * i) := by rw [show 8 * (i + 1) = 8 + 8 * i by omega, Nat.pow_add]
  have h5 : (f i).toNat * 2 ^ (8 * i) < 2 ^ (8 * (i + 1)) := by rw [hp]; exact Nat.mul_lt_mul_of_pos_right h2 (Nat.two_pow_pos _)
  have h6 : 2 ^ (8 * (i + 1)) ≤ 2 ^ 64 := Nat.pow_le_pow_right (by decide) (by omega)
  have h7 : 2 ^ (8 * i) ≤ 2 ^ 64 := Nat.pow_le_pow_right (by decide) (by omega)
  rw [g1, g2, bits_or_u64_nat _ _ (by omega) (by omega)]
  show _ = ((leS f i + (f i).toNat * 2 ^ (8 * i) : Nat) : Int)
  congr 1
  rw [Nat.or_comm, Nat.mul_comm, ← Nat.two_pow_add_eq_or_of_lt h1, Nat.add_comm]
theorem sh_wrap (x : BitVec 8) (i : Nat) (hi : i < 8) : IntKind.u64.wrap ((x.toNat : Int) * 2 ^ (8 * i)) = ((x.toNat * 2 ^ (8 * i) : Nat) : Int) := by
  have h2 := x.isLt
  have hp : 2 ^ (8 * (i + 1)) = 256 * 2 ^ (8 * i) := by rw [show 8 * (i + 1) = 8 + 8 * i by omega, Nat.pow_add]
  have h5 : x.toNat * 2 ^ (8 * i) < 2 ^ (8 * (i + 1)) := by rw [hp]; exact Nat.mul_lt_mul_of_pos_right h2 (Nat.two_pow_pos _)
  have h6 : 2 ^ (8 * (i + 1)) ≤ 2 ^ 64 := Nat.pow_le_pow_right (by decide) (by omega)
  have e : (x.toNat : Int) * 2 ^ (8 * i) = ((x.toNat * 2 ^ (8 * i) : Nat) : Int) := by rw [Int.natCast_mul, Int.natCast_pow]; rfl
  rw [e, IntKind.wrap_u64]
  omega
def dcG (f : Nat → BitVec 8) : BitVec 64 := leN (shF f 4) 8
def dcB (f : Nat → BitVec 8) : Bool := decide (f 12 = 1#8)
def dcS (f : Nat → BitVec 8) : Nat := leS (shF f 13) 4
theorem dcS_lt (f : Nat → BitVec 8) : dcS f < 4294967296 := (leN_nat (shF f 13) 4 (by omega)).2
def hP (f : Nat → BitVec 8) (i j : Nat) : BitVec 8 := if j < i then f (17 + j) else 0#8
theorem rt_set0 (x y : BitVec 64) (b : Bool) (s : Int) (H : Nat → BitVec 8) (j : Nat) : (if j = 0 then .int .u64 (y.toNat : Int) else rtV x b s H j) = rtV y b s H j := by
  unfold rtV
  split <;> rfl
theorem rt_seth (x : BitVec 64) (b : Bool) (s : Int) (f : Nat → BitVec 8) (i j : Nat) (hi : i < 32) : (if j = 3 + i then .int .u8 ((f (17 + i)).toNat : Int) else rtV x b s (hP f i) j) = rtV x b s (hP f (i + 1)) j := by
  unfold rtV yv hP
  by_cases e : j = 3 + i
  · subst e
    rw [if_pos rfl, if_neg (by omega), if_neg (by omega), if_neg (by omega), Nat.add_sub_cancel_left, if_pos (by omega)]
  · rw [if_neg e]
    by_cases e0 : j = 0
    · rw [if_pos e0, if_pos e0]
    · by_cases e1 : j = 1
      · rw [if_neg e0, if_neg e0, if_pos e1, if_pos e1]
      · by_cases e2 : j = 2
        · rw [if_neg e0, if_neg e0, if_neg e1, if_neg e1, if_pos e2, if_pos e2]
        · rw [if_neg e0, if_neg e0, if_neg e1, if_neg e1, if_neg e2, if_neg e2]
          by_cases e3 : j - 3 < i
          · rw [if_pos e3, if_pos (by omega)]
          · rw [if_neg e3, if_neg (by omega)]
def mk15 (B : Nat) (v : Value) (X : World) : Prop := ∃ p, v = .pointer (some ⟨p, 0, none⟩) ∧ B ≤ p ∧ X.heap[p]? = some (.cells (row 35 (rtV 0#64 false 0 fun _ => 0#8)).toArray 39 (0, 0))
theorem mk15_cl (B : Nat) (i : Nat) (v : Value) : Cl Ext (mk15 B v) := fun X Y ⟨p, h1, h2, h3⟩ k => ⟨p, h1, h2, (Below.block k p (Array.getElem?_eq_some_iff.1 h3).1).trans h3⟩
theorem bld39 (b : Bool) (s : Nat) (w : World) : (Instr.build 39 #[(1, .bool b), (2, .int .i64 (s : Int))]).run Tryd.prog w = .ok (.agg (row 35 (rtV 0#64 b (s : Int) fun _ => 0#8)).toArray) w := by kernel_rfl
set_option maxRecDepth 20000 in
set_option maxHeartbeats 4000000 in
theorem rrr_bad (K : Nat → BitVec 8) (h : Hd) (o : Option Addr) (l k : Nat) (w : World) (hk : ¬ okH h) : Calls Tryd.prog 15 #[.agg (row 32 (yv K)).toArray, .agg (row 24 (hdv h)).toArray, .slice o l k] w fun e w' => e = .returned (.tuple #[.agg (row 35 (rtV 0#64 false 0 fun _ => 0#8)).toArray, .int .i64 1]) ∧ Ext w w' := by
  have hE := hideit (Ext.refl w)
  go_enter Tryd.func15, Tryd.ntmps15
  go_upto_region 0 with (fail)
  refine wp_region_lit ?_
  have A0 := hideit (RowAt.new w 32 (yv K) 31)
  have XB : Ext w (w.alloc (.cells (row 32 (yv K)).toArray 31)) := (Below.refl _ _).alloc (Nat.le_refl _) _
  have AE := hideit (Ext.trans hE.out (XB))
  have AB := hideit (hE.out.size)
  clear XB
  refine wpList_to rfl (.pointer (some ⟨w.heap.size, 0, none⟩)) (w.alloc (.cells (row 32 (yv K)).toArray 31)) (by simp [go_sem]) ?_
  simp only [zp0, zp1, zp2, zp3]
  generalize w.alloc (.cells (row 32 (yv K)).toArray 31) = x1 at A0 AE ⊢
  obtain ⟨c3, ec3⟩ : ∃ b, b = w.heap.size := ⟨_, rfl⟩
  have ABc3 : Hid (w.heap.size ≤ c3) := by rw [ec3]; exact AB.out
  clear AB
  rw [← ec3] at A0  ⊢
  clear ec3
  have Hc3 := A0
  clear A0
  replace hE := AE
  clear AE
  have A0 := hideit (RowAt.new x1 24 (hdv h) 37)
  have XB : Ext x1 (x1.alloc (.cells (row 24 (hdv h)).toArray 37)) := (Below.refl _ _).alloc (Nat.le_refl _) _
  have A1 := hideit (Hc3.out.carry XB)
  have AE := hideit (Ext.trans hE.out (XB))
  have AB := hideit (hE.out.size)
  have D0 : Hid (c3 ≠ x1.heap.size) := Nat.ne_of_lt Hc3.out.2.2
  clear XB
  refine wpList_to rfl (.pointer (some ⟨x1.heap.size, 0, none⟩)) (x1.alloc (.cells (row 24 (hdv h)).toArray 37)) (by simp [go_sem]) ?_
  simp only [zp0, zp1, zp2, zp3]
  generalize x1.alloc (.cells (row 24 (hdv h)).toArray 37) = x2 at A0 A1 AE ⊢
  obtain ⟨c4, ec4⟩ : ∃ b, b = x1.heap.size := ⟨_, rfl⟩
  have ABc4 : Hid (w.heap.size ≤ c4) := by rw [ec4]; exact AB.out
  clear AB
  rw [← ec4] at A0 D0 ⊢
  clear ec4
  have Hc4 := A0
  clear A0
  replace Hc3 := A1
  clear A1
  replace hE := AE
  clear AE
  have Dc4_0 := D0
  clear D0
  have A0 := hideit (RowAt.new x2 35 (rtV 0#64 false 0 (fun _ => 0#8)) 39)
  have A1 := hideit (Hc3.out.alloc (.cells (row 35 (rtV 0#64 false 0 (fun _ => 0#8))).toArray 39))
  have A2 := hideit (Hc4.out.alloc (.cells (row 35 (rtV 0#64 false 0 (fun _ => 0#8))).toArray 39))
  have AE := hideit (Below.alloc hE.out (Below.size hE.out) (.cells (row 35 (rtV 0#64 false 0 (fun _ => 0#8))).toArray 39))
  have AB := hideit (Below.size hE.out)
  have D0 : Hid (c3 ≠ x2.heap.size) := Nat.ne_of_lt Hc3.out.2.2
  have D1 : Hid (c4 ≠ x2.heap.size) := Nat.ne_of_lt Hc4.out.2.2
  refine wpList_to rfl (.pointer (some ⟨x2.heap.size, 0, none⟩)) (x2.alloc (.cells (row 35 (rtV 0#64 false 0 (fun _ => 0#8))).toArray 39)) (xalloc 39 (row 35 (rtV 0#64 false 0 (fun _ => 0#8))).toArray rfl (zero39 x2)) ?_
  simp only [zp0, zp1, zp2, zp3]
  generalize x2.alloc (.cells (row 35 (rtV 0#64 false 0 (fun _ => 0#8))).toArray 39) = x4 at A0 A1 A2 AE ⊢
  obtain ⟨z3, ez3⟩ : ∃ b, b = x2.heap.size := ⟨_, rfl⟩
  replace AB : Hid (w.heap.size ≤ z3) := by rw [ez3]; exact AB.out
  rw [← ez3] at A0 D0 D1 ⊢
  clear ez3
  have Hz3 := A0
  clear A0
  replace Hc3 := A1
  clear A1
  replace Hc4 := A2
  clear A2
  replace hE := AE
  clear AE
  have ABz3 := AB
  clear AB
  have Dz3_0 := D0
  clear D0
  have Dz3_1 := D1
  clear D1
  refine xm [some (.int .i64 0)] (by kernel_rfl) (by simp [xr, go_sem]) ?_
  simp only [xw, p0, p1, p2, p3]
  go_upto_region 1 with (fail)
  refine wp_region_lit ?_
  refine wpList_run rfl (.agg (row 24 (hdv h)).toArray) (xload 37 (.tmp 4) rfl c4 0 24 _ rfl Hc4.out.range Tryd.underlying37 rfl inf37) ?_
  simp only [zp0, zp1, zp2, zp3]
  refine wpList_call rfl (by simp [go_sem]) ((rcheck_no h x4 hk).mono ?_)
  rintro e y2 ⟨rfl, hX2⟩
  refine ⟨_, rfl, ?_⟩
  simp only [zp0, zp1, zp2, zp3]
  replace Hc3 := hideit (Hc3.out.carry hX2)
  replace Hc4 := hideit (Hc4.out.carry hX2)
  replace Hz3 := hideit (Hz3.out.carry hX2)
  replace hE := hideit (Ext.trans hE.out (hX2))
  clear hX2
  refine xm [some (.bool true)] (by kernel_rfl) (by simp [xr, go_sem]) ?_
  simp only [xw, p0, p1, p2, p3]
  go_upto_region 2 with (fail)
  refine wp_region_lit ?_
  refine wpList_run rfl (.agg (row 35 (rtV 0#64 false 0 (fun _ => 0#8))).toArray) (xbuild 39 [] rfl _ (build39 _)) ?_
  simp only [zp0, zp1, zp2, zp3]
  have N0 := hideit (Hz3.out.cells (g' := rtV 0#64 false 0 (fun _ => 0#8)))
  have N1 := hideit (Hc3.out.cellsOther (Ne.symm (Dz3_0.out)) (row 35 (rtV 0#64 false 0 (fun _ => 0#8))) 0)
  have N2 := hideit (Hc4.out.cellsOther (Ne.symm (Dz3_1.out)) (row 35 (rtV 0#64 false 0 (fun _ => 0#8))) 0)
  have NE := hideit (below_setCells z3 (ABz3.out) (row 35 (rtV 0#64 false 0 (fun _ => 0#8))) 0 _ hE.out)
  refine xst rfl (y2.setCells z3 0 (row 35 (rtV 0#64 false 0 (fun _ => 0#8)))) (xstore 39 (.tmp 6) (.tmp 16) rfl z3 35 _ (rtV 0#64 false 0 (fun _ => 0#8)) rfl rfl Hz3.out inf39 (fun j _ => rt_one _ _ _ _ j)) ?_
  simp only [Act.put]
  generalize y2.setCells z3 0 (row 35 (rtV 0#64 false 0 (fun _ => 0#8))) = x5 at N0 N1 N2 NE ⊢
  replace Hz3 := N0
  replace Hc3 := N1
  replace Hc4 := N2
  replace hE := NE
  clear N0 N1 N2 NE
  refine xm [some (.int .i64 1)] (by kernel_rfl) (by simp [xr, go_sem]) ?_
  simp only [xw, p0, p1, p2, p3]
  go_wp2
  refine bodyPost_ret (ret_row2 rfl rfl Hz3.out Tryd.underlying39 rfl inf39) rfl ?_
  exact ⟨rfl, hE.out⟩
set_option maxRecDepth 20000 in
set_option maxHeartbeats 4000000 in
theorem rrr_len (K : Nat → BitVec 8) (h : Hd) (o : Option Addr) (l k : Nat) (w : World) (hk : okH h) (hl : ¬ (l : Int) = 512) : Calls Tryd.prog 15 #[.agg (row 32 (yv K)).toArray, .agg (row 24 (hdv h)).toArray, .slice o l k] w fun e w' => e = .returned (.tuple #[.agg (row 35 (rtV 0#64 false 0 fun _ => 0#8)).toArray, .int .i64 160]) ∧ Ext w w' := by
  have hE := hideit (Ext.refl w)
  go_enter Tryd.func15, Tryd.ntmps15
  go_upto_region 0 with (fail)
  refine wp_region_lit ?_
  have A0 := hideit (RowAt.new w 32 (yv K) 31)
  have XB : Ext w (w.alloc (.cells (row 32 (yv K)).toArray 31)) := (Below.refl _ _).alloc (Nat.le_refl _) _
  have AE := hideit (Ext.trans hE.out (XB))
  have AB := hideit (hE.out.size)
  clear XB
  refine wpList_to rfl (.pointer (some ⟨w.heap.size, 0, none⟩)) (w.alloc (.cells (row 32 (yv K)).toArray 31)) (by simp [go_sem]) ?_
  simp only [zp0, zp1, zp2, zp3]
  generalize w.alloc (.cells (row 32 (yv K)).toArray 31) = x1 at A0 AE ⊢
  obtain ⟨c3, ec3⟩ : ∃ b, b = w.heap.size := ⟨_, rfl⟩
  have ABc3 : Hid (w.heap.size ≤ c3) := by rw [ec3]; exact AB.out
  clear AB
  rw [← ec3] at A0  ⊢
  clear ec3
  have Hc3 := A0
  clear A0
  replace hE := AE
  clear AE
  have A0 := hideit (RowAt.new x1 24 (hdv h) 37)
  have XB : Ext x1 (x1.alloc (.cells (row 24 (hdv h)).toArray 37)) := (Below.refl _ _).alloc (Nat.le_refl _) _
  have A1 := hideit (Hc3.out.carry XB)
  have AE := hideit (Ext.trans hE.out (XB))
  have AB := hideit (hE.out.size)
  have D0 : Hid (c3 ≠ x1.heap.size) := Nat.ne_of_lt Hc3.out.2.2
  clear XB
  refine wpList_to rfl (.pointer (some ⟨x1.heap.size, 0, none⟩)) (x1.alloc (.cells (row 24 (hdv h)).toArray 37)) (by simp [go_sem]) ?_
  simp only [zp0, zp1, zp2, zp3]
  generalize x1.alloc (.cells (row 24 (hdv h)).toArray 37) = x2 at A0 A1 AE ⊢
  obtain ⟨c4, ec4⟩ : ∃ b, b = x1.heap.size := ⟨_, rfl⟩
  have ABc4 : Hid (w.heap.size ≤ c4) := by rw [ec4]; exact AB.out
  clear AB
  rw [← ec4] at A0 D0 ⊢
  clear ec4
  have Hc4 := A0
  clear A0
  replace Hc3 := A1
  clear A1
  replace hE := AE
  clear AE
  have Dc4_0 := D0
  clear D0
  have A0 := hideit (RowAt.new x2 35 (rtV 0#64 false 0 (fun _ => 0#8)) 39)
  have A1 := hideit (Hc3.out.alloc (.cells (row 35 (rtV 0#64 false 0 (fun _ => 0#8))).toArray 39))
  have A2 := hideit (Hc4.out.alloc (.cells (row 35 (rtV 0#64 false 0 (fun _ => 0#8))).toArray 39))
  have AE := hideit (Below.alloc hE.out (Below.size hE.out) (.cells (row 35 (rtV 0#64 false 0 (fun _ => 0#8))).toArray 39))
  have AB := hideit (Below.size hE.out)
  have D0 : Hid (c3 ≠ x2.heap.size) := Nat.ne_of_lt Hc3.out.2.2
  have D1 : Hid (c4 ≠ x2.heap.size) := Nat.ne_of_lt Hc4.out.2.2
  refine wpList_to rfl (.pointer (some ⟨x2.heap.size, 0, none⟩)) (x2.alloc (.cells (row 35 (rtV 0#64 false 0 (fun _ => 0#8))).toArray 39)) (xalloc 39 (row 35 (rtV 0#64 false 0 (fun _ => 0#8))).toArray rfl (zero39 x2)) ?_
  simp only [zp0, zp1, zp2, zp3]
  generalize x2.alloc (.cells (row 35 (rtV 0#64 false 0 (fun _ => 0#8))).toArray 39) = x4 at A0 A1 A2 AE ⊢
  obtain ⟨z3, ez3⟩ : ∃ b, b = x2.heap.size := ⟨_, rfl⟩
  replace AB : Hid (w.heap.size ≤ z3) := by rw [ez3]; exact AB.out
  rw [← ez3] at A0 D0 D1 ⊢
  clear ez3
  have Hz3 := A0
  clear A0
  replace Hc3 := A1
  clear A1
  replace Hc4 := A2
  clear A2
  replace hE := AE
  clear AE
  have ABz3 := AB
  clear AB
  have Dz3_0 := D0
  clear D0
  have Dz3_1 := D1
  clear D1
  refine xm [some (.int .i64 0)] (by kernel_rfl) (by simp [xr, go_sem]) ?_
  simp only [xw, p0, p1, p2, p3]
  go_upto_region 1 with (fail)
  refine wp_region_lit ?_
  refine wpList_run rfl (.agg (row 24 (hdv h)).toArray) (xload 37 (.tmp 4) rfl c4 0 24 _ rfl Hc4.out.range Tryd.underlying37 rfl inf37) ?_
  simp only [zp0, zp1, zp2, zp3]
  refine wpList_call rfl (by simp [go_sem]) ((rcheck_ok h x4 hk).mono ?_)
  rintro e y2 ⟨rfl, hX2⟩
  refine ⟨_, rfl, ?_⟩
  simp only [zp0, zp1, zp2, zp3]
  replace Hc3 := hideit (Hc3.out.carry hX2)
  replace Hc4 := hideit (Hc4.out.carry hX2)
  replace Hz3 := hideit (Hz3.out.carry hX2)
  replace hE := hideit (Ext.trans hE.out (hX2))
  clear hX2
  refine xm [some (.bool false)] (by kernel_rfl) (by simp [xr, go_sem]) ?_
  simp only [xw, p0, p1, p2, p3]
  go_upto_region 3 with (fail)
  refine wp_region_lit ?_
  refine xm [some (.slice o l k), some (.int .i64 (l : Int)), some (.bool true)] (by kernel_rfl) (by simp [xr, go_sem, hl]) ?_
  simp only [xw, p0, p1, p2, p3]
  go_upto_region 4 with (fail)
  refine wp_region_lit ?_
  refine wpList_run rfl (.agg (row 35 (rtV 0#64 false 0 (fun _ => 0#8))).toArray) (xbuild 39 [] rfl _ (build39 _)) ?_
  simp only [zp0, zp1, zp2, zp3]
  have N0 := hideit (Hz3.out.cells (g' := rtV 0#64 false 0 (fun _ => 0#8)))
  have N1 := hideit (Hc3.out.cellsOther (Ne.symm (Dz3_0.out)) (row 35 (rtV 0#64 false 0 (fun _ => 0#8))) 0)
  have N2 := hideit (Hc4.out.cellsOther (Ne.symm (Dz3_1.out)) (row 35 (rtV 0#64 false 0 (fun _ => 0#8))) 0)
  have NE := hideit (below_setCells z3 (ABz3.out) (row 35 (rtV 0#64 false 0 (fun _ => 0#8))) 0 _ hE.out)
  refine xst rfl (y2.setCells z3 0 (row 35 (rtV 0#64 false 0 (fun _ => 0#8)))) (xstore 39 (.tmp 6) (.tmp 20) rfl z3 35 _ (rtV 0#64 false 0 (fun _ => 0#8)) rfl rfl Hz3.out inf39 (fun j _ => rt_one _ _ _ _ j)) ?_
  simp only [Act.put]
  generalize y2.setCells z3 0 (row 35 (rtV 0#64 false 0 (fun _ => 0#8))) = x5 at N0 N1 N2 NE ⊢
  replace Hz3 := N0
  replace Hc3 := N1
  replace Hc4 := N2
  replace hE := NE
  clear N0 N1 N2 NE
  refine xm [some (.int .i64 160)] (by kernel_rfl) (by simp [xr, go_sem]) ?_
  simp only [xw, p0, p1, p2, p3]
  go_wp2
  refine bodyPost_ret (ret_row2 rfl rfl Hz3.out Tryd.underlying39 rfl inf39) rfl ?_
  exact ⟨rfl, hE.out⟩
theorem push_list : ∀ (l : List Int) (r : ByteArray), (l.foldl (fun r n => r.push (UInt8.ofNat n.toNat)) r).data.toList = r.data.toList ++ l.map fun n => UInt8.ofNat n.toNat
  | [], r => by simp
  | n :: l, r => by
    rw [List.foldl_cons, push_list l]
    simp [ByteArray.push]
theorem bstr_data (n : Nat) (f : Nat → BitVec 8) : (bstr n fun j => ((f j).toNat : Int)).data.toList = (List.range n).map fun j => UInt8.ofNat (f j).toNat := by
  unfold bstr
  rw [push_list]
  show [] ++ _ = _
  rw [List.nil_append, List.map_map]
  rfl
theorem bstr_inj (n m : Nat) (f g : Nat → BitVec 8) : (bstr n fun j => ((f j).toNat : Int)) = (bstr m fun j => ((g j).toNat : Int)) ↔ n = m ∧ ∀ j, j < n → f j = g j := by
  constructor
  · intro h
    have h1 : (bstr n fun j => ((f j).toNat : Int)).data.toList = (bstr m fun j => ((g j).toNat : Int)).data.toList := by rw [h]
    rw [bstr_data, bstr_data] at h1
    have hl : n = m := by simpa using congrArg List.length h1
    subst hl
    refine ⟨rfl, fun j hj => ?_⟩
    have h2 := congrArg (fun l => l[j]?) h1
    simp only [List.getElem?_map, List.getElem?_range hj, Option.map_some, Option.some.injEq] at h2
    have h3 := congrArg UInt8.toNat h2
    simp only [UInt8.toNat_ofNat'] at h3
    apply BitVec.eq_of_toNat_eq
    have := (f j).isLt
    have := (g j).isLt
    omega
  · rintro ⟨rfl, h⟩
    exact bstr_congr fun j hj => by rw [h j hj]
def eqB (n m : Nat) (f g : Nat → BitVec 8) : Bool := decide (n = m ∧ ∀ j, j < n → f j = g j)
theorem ba_ext {a b : ByteArray} (h : a.toList = b.toList) : a = b := by
  rw [ByteArray.toList_eq, ByteArray.toList_eq] at h
  cases a
  cases b
  simp at h
  rw [h]
theorem eqB_iff (n m : Nat) (f g : Nat → BitVec 8) : (bstr n fun j => ((f j).toNat : Int)) = (bstr m fun j => ((g j).toNat : Int)) ↔ eqB n m f g = true := by
  rw [bstr_inj]
  unfold eqB
  simp
theorem bS_list (n m : Nat) (f g : Nat → BitVec 8) : (bS n f).toList = (bS m g).toList ↔ eqB n m f g = true := by
  rw [← eqB_iff]
  exact ⟨fun h => ba_ext h, fun h => by unfold bS; rw [h]⟩
theorem bS_ne {f g : Nat → BitVec 8} (h : ¬ ∀ j, j < 512 → g j = f j) : ¬ (bS 512 f).toList = (bS 512 g).toList := fun e => h fun j hj => ((of_decide_eq_true ((bS_list 512 512 f g).1 e)).2 j hj).symm
theorem addl (a : Addr) (n : Nat) (h : n ≠ 0) : a.add n = ⟨a.block, a.off + n, none⟩ := by unfold Addr.add; rw [if_neg h]
theorem addr3 (b j : Nat) : (⟨b, 3, none⟩ : Addr).add j = ⟨b, 3 + j, none⟩ := by unfold Addr.add; split <;> simp_all
theorem leS4 (f : Nat → BitVec 8) : leS (shF f 13) 1 = (f 13).toNat := by
  show 0 + (f 13).toNat * 2 ^ 0 = _
  omega
def RdQ (K : Nat → BitVec 8) (h : Hd) (f : Nat → BitVec 8) (w : World) (e : Ending) (w' : World) : Prop := (isRt K h 512 f (dcG f) (dcB f) (dcS f) (fun j => f (17 + j)) ∧ e = .returned (.tuple #[.agg (row 35 (rtV (dcG f) (dcB f) ((dcS f : Nat) : Int) fun j => f (17 + j))).toArray, .int .i64 0]) ∧ Ext w w') ∨ (¬ isRt K h 512 f (dcG f) (dcB f) (dcS f) (fun j => f (17 + j)) ∧ e = .returned (.tuple #[.agg (row 35 (rtV 0#64 false 0 fun _ => 0#8)).toArray, .int .i64 160]) ∧ Ext w w')
set_option maxRecDepth 20000 in
set_option maxHeartbeats 4000000 in
theorem rrr_any (K : Nat → BitVec 8) (h : Hd) (a : Addr) (k : Nat) (f : Nat → BitVec 8) (w : World) (hV : LieAt a 512 (yv f) w) (hk5 : 512 ≤ k) (hk : okH h) : Calls Tryd.prog 15 #[.agg (row 32 (yv K)).toArray, .agg (row 24 (hdv h)).toArray, .slice (some a) 512 k] w fun e w' => RdQ K h f w e w' := by
  have wb13 : Hid (IntKind.i64.wrap ((f 13).toNat : Int) = ((f 13).toNat : Int)) := by have := (f 13).isLt; show IntKind.i64.wrap _ = _; rw [IntKind.wrap_i64]; omega
  have wb14 : Hid (IntKind.i64.wrap ((f 14).toNat : Int) = ((f 14).toNat : Int)) := by have := (f 14).isLt; show IntKind.i64.wrap _ = _; rw [IntKind.wrap_i64]; omega
  have wb15 : Hid (IntKind.i64.wrap ((f 15).toNat : Int) = ((f 15).toNat : Int)) := by have := (f 15).isLt; show IntKind.i64.wrap _ = _; rw [IntKind.wrap_i64]; omega
  have wb16 : Hid (IntKind.i64.wrap ((f 16).toNat : Int) = ((f 16).toNat : Int)) := by have := (f 16).isLt; show IntKind.i64.wrap _ = _; rw [IntKind.wrap_i64]; omega
  have w14 : Hid (IntKind.i64.wrap (((f 14).toNat : Int) * 256) = (((f 14).toNat : Int) * 256)) := by have := (f 14).isLt; show IntKind.i64.wrap _ = _; rw [IntKind.wrap_i64]; omega
  have w15 : Hid (IntKind.i64.wrap (((f 15).toNat : Int) * 65536) = (((f 15).toNat : Int) * 65536)) := by have := (f 15).isLt; show IntKind.i64.wrap _ = _; rw [IntKind.wrap_i64]; omega
  have w16 : Hid (IntKind.i64.wrap (((f 16).toNat : Int) * 16777216) = (((f 16).toNat : Int) * 16777216)) := by have := (f 16).isLt; show IntKind.i64.wrap _ = _; rw [IntKind.wrap_i64]; omega
  have o2 : Hid (bits .or .i64 ((f 13).toNat : Int) (((f 14).toNat : Int) * 256) = ((leS (shF f 13) 2 : Nat) : Int)) := by
    have := nK_or (shF f 13) 1 (by decide)
    rw [leS4] at this
    exact this
  have o3 : Hid (bits .or .i64 ((leS (shF f 13) 2 : Nat) : Int) (((f 15).toNat : Int) * 65536) = ((leS (shF f 13) 3 : Nat) : Int)) := nK_or (shF f 13) 2 (by decide)
  have o4 : Hid (bits .or .i64 ((leS (shF f 13) 3 : Nat) : Int) (((f 16).toNat : Int) * 16777216) = ((dcS f : Nat) : Int)) := nK_or (shF f 13) 3 (by decide)
  have hE := hideit (Ext.refl w)
  go_enter Tryd.func15, Tryd.ntmps15
  go_upto_region 0 with (fail)
  refine wp_region_lit ?_
  have A0 := hideit (RowAt.new w 32 (yv K) 31)
  have XB : Ext w (w.alloc (.cells (row 32 (yv K)).toArray 31)) := (Below.refl _ _).alloc (Nat.le_refl _) _
  have AE := hideit (Ext.trans hE.out (XB))
  have AB := hideit (hE.out.size)
  clear XB
  refine wpList_to rfl (.pointer (some ⟨w.heap.size, 0, none⟩)) (w.alloc (.cells (row 32 (yv K)).toArray 31)) (by simp [go_sem]) ?_
  simp only [zp0, zp1, zp2, zp3]
  generalize w.alloc (.cells (row 32 (yv K)).toArray 31) = x1 at A0 AE ⊢
  obtain ⟨c3, ec3⟩ : ∃ b, b = w.heap.size := ⟨_, rfl⟩
  have ABc3 : Hid (w.heap.size ≤ c3) := by rw [ec3]; exact AB.out
  clear AB
  rw [← ec3] at A0  ⊢
  clear ec3
  have Hc3 := A0
  clear A0
  replace hE := AE
  clear AE
  have A0 := hideit (RowAt.new x1 24 (hdv h) 37)
  have XB : Ext x1 (x1.alloc (.cells (row 24 (hdv h)).toArray 37)) := (Below.refl _ _).alloc (Nat.le_refl _) _
  have A1 := hideit (Hc3.out.carry XB)
  have AE := hideit (Ext.trans hE.out (XB))
  have AB := hideit (hE.out.size)
  have D0 : Hid (c3 ≠ x1.heap.size) := Nat.ne_of_lt Hc3.out.2.2
  clear XB
  refine wpList_to rfl (.pointer (some ⟨x1.heap.size, 0, none⟩)) (x1.alloc (.cells (row 24 (hdv h)).toArray 37)) (by simp [go_sem]) ?_
  simp only [zp0, zp1, zp2, zp3]
  generalize x1.alloc (.cells (row 24 (hdv h)).toArray 37) = x2 at A0 A1 AE ⊢
  obtain ⟨c4, ec4⟩ : ∃ b, b = x1.heap.size := ⟨_, rfl⟩
  have ABc4 : Hid (w.heap.size ≤ c4) := by rw [ec4]; exact AB.out
  clear AB
  rw [← ec4] at A0 D0 ⊢
  clear ec4
  have Hc4 := A0
  clear A0
  replace Hc3 := A1
  clear A1
  replace hE := AE
  clear AE
  have Dc4_0 := D0
  clear D0
  have A0 := hideit (RowAt.new x2 35 (rtV 0#64 false 0 (fun _ => 0#8)) 39)
  have A1 := hideit (Hc3.out.alloc (.cells (row 35 (rtV 0#64 false 0 (fun _ => 0#8))).toArray 39))
  have A2 := hideit (Hc4.out.alloc (.cells (row 35 (rtV 0#64 false 0 (fun _ => 0#8))).toArray 39))
  have AE := hideit (Below.alloc hE.out (Below.size hE.out) (.cells (row 35 (rtV 0#64 false 0 (fun _ => 0#8))).toArray 39))
  have AB := hideit (Below.size hE.out)
  have D0 : Hid (c3 ≠ x2.heap.size) := Nat.ne_of_lt Hc3.out.2.2
  have D1 : Hid (c4 ≠ x2.heap.size) := Nat.ne_of_lt Hc4.out.2.2
  refine wpList_to rfl (.pointer (some ⟨x2.heap.size, 0, none⟩)) (x2.alloc (.cells (row 35 (rtV 0#64 false 0 (fun _ => 0#8))).toArray 39)) (xalloc 39 (row 35 (rtV 0#64 false 0 (fun _ => 0#8))).toArray rfl (zero39 x2)) ?_
  simp only [zp0, zp1, zp2, zp3]
  generalize x2.alloc (.cells (row 35 (rtV 0#64 false 0 (fun _ => 0#8))).toArray 39) = x4 at A0 A1 A2 AE ⊢
  obtain ⟨z3, ez3⟩ : ∃ b, b = x2.heap.size := ⟨_, rfl⟩
  replace AB : Hid (w.heap.size ≤ z3) := by rw [ez3]; exact AB.out
  rw [← ez3] at A0 D0 D1 ⊢
  clear ez3
  have Hz3 := A0
  clear A0
  replace Hc3 := A1
  clear A1
  replace Hc4 := A2
  clear A2
  replace hE := AE
  clear AE
  have ABz3 := AB
  clear AB
  have Dz3_0 := D0
  clear D0
  have Dz3_1 := D1
  clear D1
  refine xm [some (.int .i64 0)] (by kernel_rfl) (by simp [xr, go_sem]) ?_
  simp only [xw, p0, p1, p2, p3]
  go_upto_region 1 with (fail)
  refine wp_region_lit ?_
  refine wpList_run rfl (.agg (row 24 (hdv h)).toArray) (xload 37 (.tmp 4) rfl c4 0 24 _ rfl Hc4.out.range Tryd.underlying37 rfl inf37) ?_
  simp only [zp0, zp1, zp2, zp3]
  refine wpList_call rfl (by simp [go_sem]) ((rcheck_ok h x4 hk).mono ?_)
  rintro e y2 ⟨rfl, hX2⟩
  refine ⟨_, rfl, ?_⟩
  simp only [zp0, zp1, zp2, zp3]
  replace Hc3 := hideit (Hc3.out.carry hX2)
  replace Hc4 := hideit (Hc4.out.carry hX2)
  replace Hz3 := hideit (Hz3.out.carry hX2)
  replace hE := hideit (Ext.trans hE.out (hX2))
  clear hX2
  refine xm [some (.bool false)] (by kernel_rfl) (by simp [xr, go_sem]) ?_
  simp only [xw, p0, p1, p2, p3]
  go_upto_region 3 with (fail)
  refine wp_region_lit ?_
  refine xm [some (.slice (some a) 512 k), some (.int .i64 512), some (.bool false)] (by kernel_rfl) (by simp [xr, go_sem]) ?_
  simp only [xw, p0, p1, p2, p3]
  obtain ⟨W, hW⟩ : ∃ W, W = y2.drew := ⟨_, rfl⟩
  have hYW : Ext y2 W := by rw [hW]; exact (Ext.refl _).draw
  have hEW := hideit (Ext.trans hE.out hYW)
  have Q3 := hideit (Hc3.out.carry hYW)
  have Q4 := hideit (Hc4.out.carry hYW)
  have Q6 := hideit (Hz3.out.carry hYW)
  have QV := hideit (hV.carry hEW.out)
  clear hE hYW Hc3 Hc4 Hz3
  go_upto_region 5 with (fail)
  refine wp_region_ladm Ext (fun X => Ext W X) (fun _ v X => mk15 W.heap.size v X) [28] [] [(0, 0), (0, 1), (0, 2), (0, 3), (0, 4), (0, 5), (0, 6), (0, 7), (0, 8), (0, 9), (0, 10), (0, 11), (0, 12), (0, 13), (0, 14), (0, 15), (0, 16), (0, 17), (0, 18), (0, 19), (0, 20), (0, 21), (0, 22), (0, 23), (0, 24), (0, 25), (0, 26), (2, 27), (1, 28)] (by kernel_rfl) (by kernel_rfl) (by decide +kernel) (by decide +kernel) (by decide +kernel) (by decide +kernel) (fun i v => mk15_cl _ i v) (fun _ _ h k => Ext.trans h k) (by rw [← hW]; exact Ext.refl _) ?_
  refine wpQ_f _ (.slice (some a) 512 k) rfl rfl (fun X hX => by simp [go_sem]) ?_
  simp only [List.getElem_toArray, List.getElem_cons_zero, Act.put, List.setIfInBounds_toArray, List.set_cons_zero, List.set_cons_succ]
  refine wpQ_f _ (.pointer (some (a.add 12))) rfl rfl (fun X hX => by simp [go_sem]) ?_
  simp only [zp4, zp5, zp6, zp0, zp1, zp2, zp3]
  refine wpQ_f _ (.int .u8 ((f 12).toNat : Int)) rfl rfl (fun X hX => by have q := (LieAt.carry QV.out hX).1 12 (by decide); rw [addl a 12 (by decide)] at q; simp [go_sem, q, yv]) ?_
  simp only [zp4, zp5, zp6, zp0, zp1, zp2, zp3]
  refine wpQ_f _ (.bool (dcB f)) rfl rfl (fun X hX => exec_eq1 23 rfl (f 12) rfl) ?_
  simp only [zp4, zp5, zp6, zp0, zp1, zp2, zp3]
  refine wpQ_f _ (.slice (some a) 512 k) rfl rfl (fun X hX => by simp [go_sem]) ?_
  simp only [zp4, zp5, zp6, zp0, zp1, zp2, zp3]
  refine wpQ_f _ (.pointer (some (a.add 13))) rfl rfl (fun X hX => by simp [go_sem]) ?_
  simp only [zp4, zp5, zp6, zp0, zp1, zp2, zp3]
  refine wpQ_f _ (.int .u8 ((f 13).toNat : Int)) rfl rfl (fun X hX => by have q := (LieAt.carry QV.out hX).1 13 (by decide); rw [addl a 13 (by decide)] at q; simp [go_sem, q, yv]) ?_
  simp only [zp4, zp5, zp6, zp0, zp1, zp2, zp3]
  refine wpQ_f _ (.int .i64 ((f 13).toNat : Int)) rfl rfl (fun X hX => by simp [go_sem, wb13.out]) ?_
  simp only [zp4, zp5, zp6, zp0, zp1, zp2, zp3]
  refine wpQ_f _ (.slice (some a) 512 k) rfl rfl (fun X hX => by simp [go_sem]) ?_
  simp only [zp4, zp5, zp6, zp0, zp1, zp2, zp3]
  refine wpQ_f _ (.pointer (some (a.add 14))) rfl rfl (fun X hX => by simp [go_sem]) ?_
  simp only [zp4, zp5, zp6, zp0, zp1, zp2, zp3]
  refine wpQ_f _ (.int .u8 ((f 14).toNat : Int)) rfl rfl (fun X hX => by have q := (LieAt.carry QV.out hX).1 14 (by decide); rw [addl a 14 (by decide)] at q; simp [go_sem, q, yv]) ?_
  simp only [zp4, zp5, zp6, zp0, zp1, zp2, zp3]
  refine wpQ_f _ (.int .i64 ((f 14).toNat : Int)) rfl rfl (fun X hX => by simp [go_sem, wb14.out]) ?_
  simp only [zp4, zp5, zp6, zp0, zp1, zp2, zp3]
  refine wpQ_f _ (.int .i64 (((f 14).toNat * 256 : Nat) : Int)) rfl rfl (fun X hX => by simp [go_sem, w14.out]) ?_
  simp only [zp4, zp5, zp6, zp0, zp1, zp2, zp3]
  refine wpQ_f _ (.int .i64 ((leS (shF f 13) 2 : Nat) : Int)) rfl rfl (fun X hX => by simp [go_sem, o2.out]) ?_
  simp only [zp4, zp5, zp6, zp0, zp1, zp2, zp3]
  refine wpQ_f _ (.slice (some a) 512 k) rfl rfl (fun X hX => by simp [go_sem]) ?_
  simp only [zp4, zp5, zp6, zp0, zp1, zp2, zp3]
  refine wpQ_f _ (.pointer (some (a.add 15))) rfl rfl (fun X hX => by simp [go_sem]) ?_
  simp only [zp4, zp5, zp6, zp0, zp1, zp2, zp3]
  refine wpQ_f _ (.int .u8 ((f 15).toNat : Int)) rfl rfl (fun X hX => by have q := (LieAt.carry QV.out hX).1 15 (by decide); rw [addl a 15 (by decide)] at q; simp [go_sem, q, yv]) ?_
  simp only [zp4, zp5, zp6, zp0, zp1, zp2, zp3]
  refine wpQ_f _ (.int .i64 ((f 15).toNat : Int)) rfl rfl (fun X hX => by simp [go_sem, wb15.out]) ?_
  simp only [zp4, zp5, zp6, zp0, zp1, zp2, zp3]
  refine wpQ_f _ (.int .i64 (((f 15).toNat * 65536 : Nat) : Int)) rfl rfl (fun X hX => by simp [go_sem, w15.out]) ?_
  simp only [zp4, zp5, zp6, zp0, zp1, zp2, zp3]
  refine wpQ_f _ (.int .i64 ((leS (shF f 13) 3 : Nat) : Int)) rfl rfl (fun X hX => by simp [go_sem, o3.out]) ?_
  simp only [zp4, zp5, zp6, zp0, zp1, zp2, zp3]
  refine wpQ_f _ (.slice (some a) 512 k) rfl rfl (fun X hX => by simp [go_sem]) ?_
  simp only [zp4, zp5, zp6, zp0, zp1, zp2, zp3]
  refine wpQ_f _ (.pointer (some (a.add 16))) rfl rfl (fun X hX => by simp [go_sem]) ?_
  simp only [zp4, zp5, zp6, zp0, zp1, zp2, zp3]
  refine wpQ_f _ (.int .u8 ((f 16).toNat : Int)) rfl rfl (fun X hX => by have q := (LieAt.carry QV.out hX).1 16 (by decide); rw [addl a 16 (by decide)] at q; simp [go_sem, q, yv]) ?_
  simp only [zp4, zp5, zp6, zp0, zp1, zp2, zp3]
  refine wpQ_f _ (.int .i64 ((f 16).toNat : Int)) rfl rfl (fun X hX => by simp [go_sem, wb16.out]) ?_
  simp only [zp4, zp5, zp6, zp0, zp1, zp2, zp3]
  refine wpQ_f _ (.int .i64 (((f 16).toNat * 16777216 : Nat) : Int)) rfl rfl (fun X hX => by simp [go_sem, w16.out]) ?_
  simp only [zp4, zp5, zp6, zp0, zp1, zp2, zp3]
  refine wpQ_f _ (.int .i64 (dcS f : Int)) rfl rfl (fun X hX => by simp [go_sem, o4.out]) ?_
  simp only [zp4, zp5, zp6, zp0, zp1, zp2, zp3]
  refine wpQ_f _ (.agg (row 35 (rtV 0#64 (dcB f) (dcS f : Int) fun _ => 0#8)).toArray) rfl rfl (fun X hX => by exact xbuild 39 [(1, .tmp 24), (2, .tmp 46)] rfl _ (bld39 (dcB f) (dcS f) X)) ?_
  simp only [zp4, zp5, zp6, zp0, zp1, zp2, zp3]
  refine wpQ_m _ rfl rfl (fun X hX => ⟨.pointer (some ⟨X.heap.size, 0, none⟩), X.alloc (.cells (row 35 (rtV 0#64 false 0 (fun _ => 0#8))).toArray 39), xalloc 39 _ rfl (zero39 _), ⟨X.heap.size, rfl, Below.size hX, heap_new _ _ _⟩, (Below.refl _ _).alloc (Nat.le_refl _) _⟩) ?_
  rintro v27 ⟨_, -, p, rfl, -⟩
  simp only [zp4, zp5, zp6, zp0, zp1, zp2, zp3]
  refine wpQ_st _ rfl rfl fun X hX => ?_
  obtain ⟨EX, p', f5, hp, hm⟩ := hX
  injection f5 with f5
  injection f5 with f5
  injection f5 with f5
  subst f5
  have N0 := hideit ((row_heap hm).cells (g' := rtV 0#64 (dcB f) (dcS f : Int) (fun _ => 0#8)))
  have NE := hideit (below_setCells p hp (row 35 (rtV 0#64 (dcB f) (dcS f : Int) (fun _ => 0#8))) 0 _ EX)
  refine ⟨X.setCells p 0 (row 35 (rtV 0#64 (dcB f) (dcS f : Int) (fun _ => 0#8))), xstore 39 (.tmp 8) (.tmp 47) rfl p 35 _ (rtV 0#64 (dcB f) (dcS f : Int) (fun _ => 0#8)) rfl rfl (row_heap hm) inf39 (fun j _ => rt_one _ _ _ _ j), fun Y => Y = X.setCells p 0 (row 35 (rtV 0#64 (dcB f) (dcS f : Int) (fun _ => 0#8))), rfl, .inl (by simp), ?_⟩
  simp only [List.getElem_toArray, List.getElem_cons_zero, List.getElem_cons_succ, Act.put]
  refine wpQ_nil fun Y hY => ?_
  rw [← hY] at N0 NE
  have hp2 : Hid (W.heap.size ≤ p) := hp
  clear hY hm EX hp
  clear hW
  go_upto_region 6 with (fail)
  refine wp_region_lit ?_
  refine xm [some (.int .i64 0)] (by kernel_rfl) (by simp [xr, go_sem]) ?_
  simp only [xw, p0, p1, p2, p3]
  go_wp2
  go_loopw [9] (fun t X => ∃ i : Nat, i ≤ 8 ∧ t = .int .i64 (i : Int) ∧ RowAt p 35 (rtV (leN (shF f 4) i) (dcB f) (dcS f : Int) fun _ => 0#8) X ∧ Ext W X) (fun t _ => 8 - (intOf t).toNat)
  case atStart => exact ⟨0, by omega, rfl, N0.out, NE.out⟩
  case round =>
    obtain ⟨i, hi5, rfl, rp, rE⟩ := hrel
    clear N0 NE
    replace rp := hideit rp
    replace rE := hideit rE
    by_cases hi2 : (i : Int) < 8
    · have hi := hideit hi2
      have hin : Hid (i < 8) := by show i < 8; omega
      have ek : IntKind.i64.wrap ((i : Int) + 1) = ((i + 1 : Nat) : Int) := by rw [IntKind.wrap_i64]; omega
      obtain ⟨m, hm⟩ : ∃ m : Nat, m = 4 + i := ⟨_, rfl⟩
      have hmn : m < 512 := by have := hin.out; omega
      have hml : Hid (¬ (512 : Int) ≤ (m : Int)) := by show ¬ (512 : Int) ≤ (m : Int); omega
      have hadd : Hid (IntKind.i64.wrap (4 + (i : Int)) = (m : Int)) := by have := hin.out; show IntKind.i64.wrap (4 + (i : Int)) = _; rw [IntKind.wrap_i64]; omega
      have hmul : Hid (IntKind.i64.wrap (8 * (i : Int)) = 8 * (i : Int)) := by show IntKind.i64.wrap (8 * (i : Int)) = _; rw [IntKind.wrap_i64]; omega
      have hu64 : Hid (IntKind.u64.wrap ((f m).toNat : Int) = ((f m).toNat : Int)) := by have := (f m).isLt; show IntKind.u64.wrap _ = _; rw [IntKind.wrap_u64]; omega
      have hor0 := cnt_or (shF f 4) i hin.out
      have hsw0 := sh_wrap (f m) i hin.out
      rw [show shF f 4 i = f m by rw [hm]; rfl] at hor0
      obtain ⟨q, hq⟩ : ∃ q, q = (f m).toNat * 2 ^ (8 * i) := ⟨_, rfl⟩
      rw [← hq] at hor0 hsw0
      have hor := hideit hor0
      have hsr : Hid (Op.shift .shl .u64 ((f m).toNat : Int) .i64 (8 * (i : Int)) = pure (.int .u64 (q : Int))) := by
        have h0 := hin.out
        have h1 : (0 : Int) ≤ 8 * (i : Int) := by omega
        have h2 : 8 * (i : Int) ≤ 64 := by omega
        show _ = _
        rw [shift_shl_u64 .i64 _ _ h1 h2, show (8 * (i : Int)).toNat = 8 * i by omega, hsw0]
      replace hm := hideit hm
      clear hi2 hi5 hq hor0 hsw0
      go_upto_region 7 with (fail)
      refine wp_region_lit ?_
      refine xm [some (.int .i64 (i : Int)), some (.bool true)] (by kernel_rfl) (by simp [xr, go_sem, hi.out]) ?_
      simp only [xw, p0, p1, p2, p3]
      have rW := hideit (Ext.draw rE.out)
      have rD := hideit (rp.out.drew)
      clear rE rp
      obtain ⟨V, hVV⟩ : ∃ X, X = wr.drew := ⟨_, rfl⟩
      rw [← hVV] at rW rD
      go_upto_region 9 with (fail)
      refine wp_region_ladz (fun X => Ext V X) [13] [(false, 0), (false, 1), (false, 2), (false, 3), (false, 4), (false, 5), (false, 6), (false, 7), (false, 8), (false, 9), (false, 10), (false, 11), (false, 12), (true, 13)] (by kernel_rfl) (by kernel_rfl) (by decide +kernel) (by decide +kernel) (by decide +kernel) (by decide +kernel) (by rw [← hVV]; exact Ext.refl _) ?_
      refine wpZ_f _ (.pointer (some ⟨p, 0, none⟩)) rfl rfl (fun X hX => by simp [go_sem]) ?_
      simp only [List.getElem_toArray, List.getElem_cons_zero, Act.put, List.setIfInBounds_toArray, List.set_cons_zero, List.set_cons_succ]
      refine wpZ_f _ (.int .u64 ((leN (shF f 4) i).toNat : Int)) rfl rfl (fun X hX => by have q : X.cell? ⟨p, 0, none⟩ = some (.int .u64 ((leN (shF f 4) i).toNat : Int)) := (rD.out.carry hX).1 0 (by decide); simp [go_sem, q]) ?_
      simp only [zp4, zp5, zp6, zp0, zp1, zp2, zp3]
      refine wpZ_f _ (.slice (some a) 512 k) rfl rfl (fun X hX => by simp [go_sem]) ?_
      simp only [zp4, zp5, zp6, zp0, zp1, zp2, zp3]
      refine wpZ_f _ (.int .i64 (i : Int)) rfl rfl (fun X hX => by simp [go_sem]) ?_
      simp only [zp4, zp5, zp6, zp0, zp1, zp2, zp3]
      refine wpZ_f _ (.int .i64 (m : Int)) rfl rfl (fun X hX => by simp [go_sem, hadd.out]) ?_
      simp only [zp4, zp5, zp6, zp0, zp1, zp2, zp3]
      refine wpZ_f _ (.pointer (some (a.add m))) rfl rfl (fun X hX => by simp [go_sem, hml.out]) ?_
      simp only [zp4, zp5, zp6, zp0, zp1, zp2, zp3]
      refine wpZ_f _ (.int .u8 ((f m).toNat : Int)) rfl rfl (fun X hX => by have q : X.cell? (a.add m) = some (.int .u8 ((f m).toNat : Int)) := (LieAt.carry QV.out (Ext.trans rW.out hX)).1 m hmn; simp [go_sem, q]) ?_
      simp only [zp4, zp5, zp6, zp0, zp1, zp2, zp3]
      refine wpZ_f _ (.int .u64 ((f m).toNat : Int)) rfl rfl (fun X hX => by simp [go_sem, hu64.out]) ?_
      simp only [zp4, zp5, zp6, zp0, zp1, zp2, zp3]
      refine wpZ_f _ (.int .i64 (i : Int)) rfl rfl (fun X hX => by simp [go_sem]) ?_
      simp only [zp4, zp5, zp6, zp0, zp1, zp2, zp3]
      refine wpZ_f _ (.int .i64 (8 * (i : Int))) rfl rfl (fun X hX => by simp [go_sem, hmul.out]) ?_
      simp only [zp4, zp5, zp6, zp0, zp1, zp2, zp3]
      refine wpZ_f _ (.int .u64 (q : Int)) rfl rfl (fun X hX => by simp [go_sem, hsr.out]) ?_
      simp only [zp4, zp5, zp6, zp0, zp1, zp2, zp3]
      refine wpZ_f _ (.int .u64 ((leN (shF f 4) (i + 1)).toNat : Int)) rfl rfl (fun X hX => by simp [go_sem, hor.out]) ?_
      simp only [zp4, zp5, zp6, zp0, zp1, zp2, zp3]
      refine wpZ_f _ (.pointer (some ⟨p, 0, none⟩)) rfl rfl (fun X hX => by simp [go_sem]) ?_
      simp only [zp4, zp5, zp6, zp0, zp1, zp2, zp3]
      have N0 := hideit ((rD.out.set 0 (.int .u64 ((leN (shF f 4) (i + 1)).toNat : Int))).congr (g' := rtV (leN (shF f 4) (i + 1)) (dcB f) (dcS f : Int) fun _ => 0#8) fun j _ => rt_set0 _ _ _ _ _ j)
      have NE := hideit (rW.out.setCell (p := ⟨p, 0, none⟩) hp2.out (.int .u64 ((leN (shF f 4) (i + 1)).toNat : Int)))
      have M0 : V.cell? ⟨p, 0, none⟩ = some (.int .u64 ((leN (shF f 4) i).toNat : Int)) := rD.out.1 0 (by decide)
      have M1 : V.frozen? ⟨p, 0, none⟩ = false := rD.out.2.1 0 (by decide)
      rw [← hVV]
      refine wpZ_st _ (V.setCell ⟨p, 0, none⟩ (.int .u64 ((leN (shF f 4) (i + 1)).toNat : Int))) rfl rfl (by simp [go_sem, M0, M1]) (fun _ => True) (.inl (by simp)) trivial ?_
      simp only [List.getElem_toArray, List.getElem_cons_zero, List.getElem_cons_succ, Act.put]
      generalize V.setCell ⟨p, 0, none⟩ (.int .u64 ((leN (shF f 4) (i + 1)).toNat : Int)) = w9 at N0 NE ⊢
      clear M0 M1 rW rD
      refine wpZ_nil ?_
      go_upto_region 8 with (fail)
      refine wp_region_lit ?_
      refine xm [some (.int .i64 (i : Int)), some (.int .i64 ((i + 1 : Nat) : Int)), some (.int .i64 ((i + 1 : Nat) : Int))] (by kernel_rfl) (by simp [xr, go_sem, ek]) ?_
      simp only [xw, p0, p1, p2, p3]
      go_wp2
      go_round
      case rel => exact ⟨i + 1, by have := hin.out; omega, rfl, N0.out, NE.out⟩
      case measure => have := hin.out; simp [intOf]; omega
    · have hi := hideit hi2
      have hge : Hid (8 ≤ (i : Int)) := by show 8 ≤ (i : Int); omega
      have hi8 : i = 8 := by omega
      have rp2 := hideit (rp.out.congr (g' := rtV (dcG f) (dcB f) (dcS f : Int) (hP f 0)) fun j hj => by rw [hi8]; rfl)
      have i9' : ∃ u : Value, u = .int .i64 (i : Int) := ⟨_, rfl⟩
      clear hi2 hi5 rp hi8
      go_upto_region 7 with (fail)
      refine wp_region_lit ?_
      refine xm [some (.int .i64 (i : Int)), some (.bool false)] (by kernel_rfl) (by simp [xr, go_sem, hge.out]) ?_
      simp only [xw, p0, p1, p2, p3]
      go_upto_region 10 with (fail)
      refine wp_region_lit ?_
      refine xm [some (.int .i64 0)] (by kernel_rfl) (by simp [xr, go_sem]) ?_
      simp only [xw, p0, p1, p2, p3]
      go_wp2
      go_loopw [10] (fun t X => ∃ i : Nat, i ≤ 32 ∧ t = .int .i64 (i : Int) ∧ RowAt p 35 (rtV (dcG f) (dcB f) (dcS f : Int) (hP f i)) X ∧ Ext W X) (fun t _ => 32 - (intOf t).toNat)
      case atStart => exact ⟨0, by omega, rfl, rp2.out, rE.out⟩
      case round =>
        obtain ⟨i, hi5, rfl, rp, rE⟩ := hrel
        replace rp := hideit rp
        replace rE := hideit rE
        by_cases hi2 : (i : Int) < 32
        · have hi := hideit hi2
          have hin : Hid (i < 32) := by show i < 32; omega
          have ek : IntKind.i64.wrap ((i : Int) + 1) = ((i + 1 : Nat) : Int) := by rw [IntKind.wrap_i64]; omega
          have hge : Hid (¬ 32 ≤ (i : Int)) := by show ¬ 32 ≤ (i : Int); omega
          obtain ⟨m, hm⟩ : ∃ m : Nat, m = 17 + i := ⟨_, rfl⟩
          have hmn : m < 512 := by have := hin.out; omega
          have hml : Hid (¬ (512 : Int) ≤ (m : Int)) := by show ¬ (512 : Int) ≤ (m : Int); omega
          have hadd : Hid (IntKind.i64.wrap (17 + (i : Int)) = (m : Int)) := by have := hin.out; show IntKind.i64.wrap (17 + (i : Int)) = _; rw [IntKind.wrap_i64]; omega
          have hel : Hid (wr.cell? (a.add m) = some (.int .u8 ((f m).toNat : Int))) := (LieAt.carry QV.out rE.out).1 m hmn
          replace hm := hideit hm
          clear hi2 hi5
          go_upto_region 11 with (fail)
          refine wp_region_lit ?_
          refine xm [some (.int .i64 (i : Int)), some (.bool true)] (by kernel_rfl) (by simp [xr, go_sem, hi.out]) ?_
          simp only [xw, p0, p1, p2, p3]
          go_upto_region 13 with (fail)
          refine wp_region_lit ?_
          refine xm [some (.int .i64 (i : Int)), some (.slice (some a) 512 k), some (.int .i64 (i : Int)), some (.int .i64 (m : Int)), some (.pointer (some (a.add m))), some (.int .u8 ((f m).toNat : Int)), some (.pointer (some ⟨p, 3, none⟩)), some (.pointer (some ⟨p, 3 + i, none⟩))] (by kernel_rfl) (by simp [xr, go_sem, hadd.out, hml.out, hel.out, hge.out, addr3]) ?_
          simp only [xw, p0, p1, p2, p3]
          have N0 := hideit ((rp.out.set (3 + i) (.int .u8 ((f m).toNat : Int))).congr (g' := rtV (dcG f) (dcB f) (dcS f : Int) (hP f (i + 1))) fun j _ => by rw [hm.out]; exact rt_seth _ _ _ f i j hin.out)
          have NE := hideit (rE.out.setCell (p := ⟨p, 3 + i, none⟩) hp2.out (.int .u8 ((f m).toNat : Int)))
          have M0 : wr.cell? ⟨p, 3 + i, none⟩ = some (rtV (dcG f) (dcB f) (dcS f : Int) (hP f i) (3 + i)) := rp.out.1 (3 + i) (by have := hin.out; omega)
          have M1 : wr.frozen? ⟨p, 3 + i, none⟩ = false := rp.out.2.1 (3 + i) (by have := hin.out; omega)
          refine xst rfl (wr.setCell ⟨p, 3 + i, none⟩ (.int .u8 ((f m).toNat : Int))) (by simp [go_sem, M0, M1]) ?_
          simp only [Act.put]
          generalize wr.setCell ⟨p, 3 + i, none⟩ (.int .u8 ((f m).toNat : Int)) = w9 at N0 NE ⊢
          clear M0 M1
          go_upto_region 12 with (fail)
          refine wp_region_lit ?_
          refine xm [some (.int .i64 (i : Int)), some (.int .i64 ((i + 1 : Nat) : Int)), some (.int .i64 ((i + 1 : Nat) : Int))] (by kernel_rfl) (by simp [xr, go_sem, ek]) ?_
          simp only [xw, p0, p1, p2, p3]
          go_wp2
          go_round
          case rel => exact ⟨i + 1, by have := hin.out; omega, rfl, N0.out, NE.out⟩
          case measure => have := hin.out; simp [intOf]; omega
        · have hi := hideit hi2
          have hge : Hid (32 ≤ (i : Int)) := by show 32 ≤ (i : Int); omega
          have hi8 : i = 32 := by omega
          replace rp := hideit (rp.out.congr (g' := rtV (dcG f) (dcB f) (dcS f : Int) (fun j => f (17 + j))) fun j hj => by
            rw [hi8]
            unfold rtV yv hP
            by_cases e0 : j = 0
            · rw [if_pos e0, if_pos e0]
            · by_cases e1 : j = 1
              · rw [if_neg e0, if_neg e0, if_pos e1, if_pos e1]
              · by_cases e2 : j = 2
                · rw [if_neg e0, if_neg e0, if_neg e1, if_neg e1, if_pos e2, if_pos e2]
                · rw [if_neg e0, if_neg e0, if_neg e1, if_neg e1, if_neg e2, if_neg e2, if_pos (by omega)])
          have q3 := hideit (Q3.out.carry rE.out)
          have q4 := hideit (Q4.out.carry rE.out)
          have q6 := hideit (Q6.out.carry rE.out)
          have rF := hideit (Ext.trans hEW.out rE.out)
          have n6p : Hid (z3 ≠ p) := by have h1 := Q6.out.2.2; have h2 := hp2.out; show _ ≠ _; omega
          clear hi2 hi5 hi8 rE
          by_cases hm : mbB h (dcB f) (dcS f : Int) = true
          · by_cases hq9 : ∀ j, j < 512 → f j = rkF K h (dcG f) (dcB f) (dcS f) (fun j => f (17 + j)) j
            · have hq := hideit hq9
              have hneq := hideit (show bS 512 (rkF K h (dcG f) (dcB f) (dcS f) fun j => f (17 + j)) = bS 512 f from bS_congr fun j hj => (hq9 j hj).symm)
              clear hq9
              go_upto_region 11 with (fail)
              refine wp_region_lit ?_
              refine xm [some (.int .i64 (i : Int)), some (.bool false)] (by kernel_rfl) (by simp [xr, go_sem, hge.out]) ?_
              simp only [xw, p0, p1, p2, p3]
              go_upto_region 14 with (fail)
              refine wp_region_lit ?_
              refine wpList_run rfl (.agg (row 32 (yv K)).toArray) (xload 31 (.tmp 3) rfl c3 0 32 _ rfl q3.out.range Tryd.underlying31 rfl inf31) ?_
              simp only [zp0, zp1, zp2, zp3]
              refine wpList_run rfl (.agg (row 24 (hdv h)).toArray) (xload 37 (.tmp 4) rfl c4 0 24 _ rfl q4.out.range Tryd.underlying37 rfl inf37) ?_
              simp only [zp0, zp1, zp2, zp3]
              refine wpList_run rfl (.agg (row 35 (rtV (dcG f) (dcB f) (dcS f : Int) (fun j => f (17 + j)))).toArray) (xload 39 (.tmp 8) rfl p 0 35 _ rfl rp.out.range Tryd.underlying39 rfl inf39) ?_
              simp only [zp0, zp1, zp2, zp3]
              refine wpList_call rfl (by simp [go_sem]) ((rrb_ok K h (dcG f) (dcB f) (dcS f) (fun j => f (17 + j)) wr hk hm (dcS_lt f)).mono ?_)
              rintro e y4 ⟨v4, rfl, hB4, hX4⟩
              refine ⟨_, rfl, ?_⟩
              simp only [zp0, zp1, zp2, zp3]
              replace q3 := hideit (q3.out.carry hX4)
              replace q4 := hideit (q4.out.carry hX4)
              replace q6 := hideit (q6.out.carry hX4)
              replace rp := hideit (rp.out.carry hX4)
              replace rF := hideit (Ext.trans rF.out (hX4))
              obtain ⟨o4, k4, rfl⟩ := hB4.form
              replace hB4 := hideit hB4
              clear hX4
              refine xm [some (.tuple #[.slice o4 512 k4, .int .i64 0]), some (.slice o4 512 k4), some (.int .i64 0), some (.slice o4 512 k4), some (.int .i64 0)] (by kernel_rfl) (by simp [xr, go_sem]) ?_
              simp only [xw, p0, p1, p2, p3]
              go_upto_region 15 with (fail)
              refine wp_region_lit ?_
              refine xm [some (.int .i64 0), some (.bool false), some (.bool false), some (.slice o4 512 k4)] (by kernel_rfl) (by simp [xr, go_sem]) ?_
              simp only [xw, p0, p1, p2, p3]
              have cv1 := convS (.slice o4 512 k4) 512 (rkF K h (dcG f) (dcB f) (dcS f) fun j => f (17 + j)) y4 hB4.out
              refine xm [some (.string (bS 512 (rkF K h (dcG f) (dcB f) (dcS f) fun j => f (17 + j)))), some (.slice (some a) 512 k)] (by kernel_rfl) (by simp [xr, go_sem, cv1]) ?_
              simp only [xw, p0, p1, p2, p3]
              clear cv1
              have cv2 := convS (.slice (some a) 512 k) 512 f y4 (.inr ⟨a, k, rfl, hk5, LieAt.carry hV rF.out⟩)
              refine xm [some (.string (bS 512 f))] (by kernel_rfl) (by simp [xr, go_sem, cv2]) ?_
              simp only [xw, p0, p1, p2, p3]
              clear cv2
              refine xm [some (.bool false), some (.bool false)] (by kernel_rfl) (by simp [xr, go_sem, hneq.out]) ?_
              simp only [xw, p0, p1, p2, p3]
              go_upto_region 17 with (fail)
              refine wp_region_lit ?_
              refine wpList_run rfl (.agg (row 35 (rtV (dcG f) (dcB f) (dcS f : Int) (fun j => f (17 + j)))).toArray) (xload 39 (.tmp 8) rfl p 0 35 _ rfl rp.out.range Tryd.underlying39 rfl inf39) ?_
              simp only [zp0, zp1, zp2, zp3]
              have N0 := hideit (q6.out.cells (g' := rtV (dcG f) (dcB f) (dcS f : Int) (fun j => f (17 + j))))
              have N1 := hideit (q3.out.cellsOther (Ne.symm (Dz3_0.out)) (row 35 (rtV (dcG f) (dcB f) (dcS f : Int) (fun j => f (17 + j)))) 0)
              have N2 := hideit (q4.out.cellsOther (Ne.symm (Dz3_1.out)) (row 35 (rtV (dcG f) (dcB f) (dcS f : Int) (fun j => f (17 + j)))) 0)
              have N3 := hideit (rp.out.cellsOther (n6p.out) (row 35 (rtV (dcG f) (dcB f) (dcS f : Int) (fun j => f (17 + j)))) 0)
              have NE := hideit (below_setCells z3 (ABz3.out) (row 35 (rtV (dcG f) (dcB f) (dcS f : Int) (fun j => f (17 + j)))) 0 _ rF.out)
              refine xst rfl (y4.setCells z3 0 (row 35 (rtV (dcG f) (dcB f) (dcS f : Int) (fun j => f (17 + j))))) (xstore 39 (.tmp 6) (.tmp 94) rfl z3 35 _ (rtV (dcG f) (dcB f) (dcS f : Int) (fun j => f (17 + j))) rfl rfl q6.out inf39 (fun j _ => rt_one _ _ _ _ j)) ?_
              simp only [Act.put]
              generalize y4.setCells z3 0 (row 35 (rtV (dcG f) (dcB f) (dcS f : Int) (fun j => f (17 + j)))) = x3 at N0 N1 N2 N3 NE ⊢
              replace q6 := N0
              replace q3 := N1
              replace q4 := N2
              replace rp := N3
              replace rF := NE
              clear N0 N1 N2 N3 NE
              refine xm [some (.int .i64 0)] (by kernel_rfl) (by simp [xr, go_sem]) ?_
              simp only [xw, p0, p1, p2, p3]
              go_wp2
              refine bodyPost_ret (ret_row2 rfl rfl q6.out Tryd.underlying39 rfl inf39) rfl ?_
              exact .inl ⟨⟨hm, rfl, hq.out⟩, rfl, rF.out⟩
            · have hq := hideit hq9
              have hneq := hideit (bS_ne (f := rkF K h (dcG f) (dcB f) (dcS f) fun j => f (17 + j)) (g := f) hq9)
              clear hq9
              go_upto_region 11 with (fail)
              refine wp_region_lit ?_
              refine xm [some (.int .i64 (i : Int)), some (.bool false)] (by kernel_rfl) (by simp [xr, go_sem, hge.out]) ?_
              simp only [xw, p0, p1, p2, p3]
              go_upto_region 14 with (fail)
              refine wp_region_lit ?_
              refine wpList_run rfl (.agg (row 32 (yv K)).toArray) (xload 31 (.tmp 3) rfl c3 0 32 _ rfl q3.out.range Tryd.underlying31 rfl inf31) ?_
              simp only [zp0, zp1, zp2, zp3]
              refine wpList_run rfl (.agg (row 24 (hdv h)).toArray) (xload 37 (.tmp 4) rfl c4 0 24 _ rfl q4.out.range Tryd.underlying37 rfl inf37) ?_
              simp only [zp0, zp1, zp2, zp3]
              refine wpList_run rfl (.agg (row 35 (rtV (dcG f) (dcB f) (dcS f : Int) (fun j => f (17 + j)))).toArray) (xload 39 (.tmp 8) rfl p 0 35 _ rfl rp.out.range Tryd.underlying39 rfl inf39) ?_
              simp only [zp0, zp1, zp2, zp3]
              refine wpList_call rfl (by simp [go_sem]) ((rrb_ok K h (dcG f) (dcB f) (dcS f) (fun j => f (17 + j)) wr hk hm (dcS_lt f)).mono ?_)
              rintro e y4 ⟨v4, rfl, hB4, hX4⟩
              refine ⟨_, rfl, ?_⟩
              simp only [zp0, zp1, zp2, zp3]
              replace q3 := hideit (q3.out.carry hX4)
              replace q4 := hideit (q4.out.carry hX4)
              replace q6 := hideit (q6.out.carry hX4)
              replace rp := hideit (rp.out.carry hX4)
              replace rF := hideit (Ext.trans rF.out (hX4))
              obtain ⟨o4, k4, rfl⟩ := hB4.form
              replace hB4 := hideit hB4
              clear hX4
              refine xm [some (.tuple #[.slice o4 512 k4, .int .i64 0]), some (.slice o4 512 k4), some (.int .i64 0), some (.slice o4 512 k4), some (.int .i64 0)] (by kernel_rfl) (by simp [xr, go_sem]) ?_
              simp only [xw, p0, p1, p2, p3]
              go_upto_region 15 with (fail)
              refine wp_region_lit ?_
              refine xm [some (.int .i64 0), some (.bool false), some (.bool false), some (.slice o4 512 k4)] (by kernel_rfl) (by simp [xr, go_sem]) ?_
              simp only [xw, p0, p1, p2, p3]
              have cv1 := convS (.slice o4 512 k4) 512 (rkF K h (dcG f) (dcB f) (dcS f) fun j => f (17 + j)) y4 hB4.out
              refine xm [some (.string (bS 512 (rkF K h (dcG f) (dcB f) (dcS f) fun j => f (17 + j)))), some (.slice (some a) 512 k)] (by kernel_rfl) (by simp [xr, go_sem, cv1]) ?_
              simp only [xw, p0, p1, p2, p3]
              clear cv1
              have cv2 := convS (.slice (some a) 512 k) 512 f y4 (.inr ⟨a, k, rfl, hk5, LieAt.carry hV rF.out⟩)
              refine xm [some (.string (bS 512 f))] (by kernel_rfl) (by simp [xr, go_sem, cv2]) ?_
              simp only [xw, p0, p1, p2, p3]
              clear cv2
              refine xm [some (.bool true), some (.bool true)] (by kernel_rfl) (by simp [xr, go_sem, hneq.out]) ?_
              simp only [xw, p0, p1, p2, p3]
              go_upto_region 16 with (fail)
              refine wp_region_lit ?_
              refine wpList_run rfl (.agg (row 35 (rtV 0#64 false 0 (fun _ => 0#8))).toArray) (xbuild 39 [] rfl _ (build39 _)) ?_
              simp only [zp0, zp1, zp2, zp3]
              have N0 := hideit (q6.out.cells (g' := rtV 0#64 false 0 (fun _ => 0#8)))
              have N1 := hideit (q3.out.cellsOther (Ne.symm (Dz3_0.out)) (row 35 (rtV 0#64 false 0 (fun _ => 0#8))) 0)
              have N2 := hideit (q4.out.cellsOther (Ne.symm (Dz3_1.out)) (row 35 (rtV 0#64 false 0 (fun _ => 0#8))) 0)
              have N3 := hideit (rp.out.cellsOther (n6p.out) (row 35 (rtV 0#64 false 0 (fun _ => 0#8))) 0)
              have NE := hideit (below_setCells z3 (ABz3.out) (row 35 (rtV 0#64 false 0 (fun _ => 0#8))) 0 _ rF.out)
              refine xst rfl (y4.setCells z3 0 (row 35 (rtV 0#64 false 0 (fun _ => 0#8)))) (xstore 39 (.tmp 6) (.tmp 93) rfl z3 35 _ (rtV 0#64 false 0 (fun _ => 0#8)) rfl rfl q6.out inf39 (fun j _ => rt_one _ _ _ _ j)) ?_
              simp only [Act.put]
              generalize y4.setCells z3 0 (row 35 (rtV 0#64 false 0 (fun _ => 0#8))) = x3 at N0 N1 N2 N3 NE ⊢
              replace q6 := N0
              replace q3 := N1
              replace q4 := N2
              replace rp := N3
              replace rF := NE
              clear N0 N1 N2 N3 NE
              refine xm [some (.int .i64 160)] (by kernel_rfl) (by simp [xr, go_sem]) ?_
              simp only [xw, p0, p1, p2, p3]
              go_wp2
              refine bodyPost_ret (ret_row2 rfl rfl q6.out Tryd.underlying39 rfl inf39) rfl ?_
              exact .inr ⟨fun q => hq.out q.2.2, rfl, rF.out⟩
          · replace hm : mbB h (dcB f) (dcS f : Int) = false := by cases hb : mbB h (dcB f) (dcS f : Int); rfl; exact absurd hb hm
            go_upto_region 11 with (fail)
            refine wp_region_lit ?_
            refine xm [some (.int .i64 (i : Int)), some (.bool false)] (by kernel_rfl) (by simp [xr, go_sem, hge.out]) ?_
            simp only [xw, p0, p1, p2, p3]
            go_upto_region 14 with (fail)
            refine wp_region_lit ?_
            refine wpList_run rfl (.agg (row 32 (yv K)).toArray) (xload 31 (.tmp 3) rfl c3 0 32 _ rfl q3.out.range Tryd.underlying31 rfl inf31) ?_
            simp only [zp0, zp1, zp2, zp3]
            refine wpList_run rfl (.agg (row 24 (hdv h)).toArray) (xload 37 (.tmp 4) rfl c4 0 24 _ rfl q4.out.range Tryd.underlying37 rfl inf37) ?_
            simp only [zp0, zp1, zp2, zp3]
            refine wpList_run rfl (.agg (row 35 (rtV (dcG f) (dcB f) (dcS f : Int) (fun j => f (17 + j)))).toArray) (xload 39 (.tmp 8) rfl p 0 35 _ rfl rp.out.range Tryd.underlying39 rfl inf39) ?_
            simp only [zp0, zp1, zp2, zp3]
            refine wpList_call rfl (by simp [go_sem]) ((rrb_no K h (dcG f) (dcB f) (dcS f : Int) (fun j => f (17 + j)) wr (fun _ => hm)).mono ?_)
            rintro e y1 ⟨rfl, hX2⟩
            refine ⟨_, rfl, ?_⟩
            simp only [zp0, zp1, zp2, zp3]
            replace q3 := hideit (q3.out.carry hX2)
            replace q4 := hideit (q4.out.carry hX2)
            replace q6 := hideit (q6.out.carry hX2)
            replace rp := hideit (rp.out.carry hX2)
            replace rF := hideit (Ext.trans rF.out (hX2))
            clear hX2
            refine xm [some (.tuple #[.slice none 0 0, .int .i64 1]), some (.slice none 0 0), some (.int .i64 1), some (.slice none 0 0), some (.int .i64 1)] (by kernel_rfl) (by simp [xr, go_sem]) ?_
            simp only [xw, p0, p1, p2, p3]
            go_upto_region 15 with (fail)
            refine wp_region_lit ?_
            refine xm [some (.int .i64 1), some (.bool true), some (.bool true), none, none, none, none, none, some (.bool true)] (by kernel_rfl) (by simp [xr, go_sem]) ?_
            simp only [xw, p0, p1, p2, p3]
            go_upto_region 16 with (fail)
            refine wp_region_lit ?_
            refine wpList_run rfl (.agg (row 35 (rtV 0#64 false 0 (fun _ => 0#8))).toArray) (xbuild 39 [] rfl _ (build39 _)) ?_
            simp only [zp0, zp1, zp2, zp3]
            have N0 := hideit (q6.out.cells (g' := rtV 0#64 false 0 (fun _ => 0#8)))
            have N1 := hideit (q3.out.cellsOther (Ne.symm (Dz3_0.out)) (row 35 (rtV 0#64 false 0 (fun _ => 0#8))) 0)
            have N2 := hideit (q4.out.cellsOther (Ne.symm (Dz3_1.out)) (row 35 (rtV 0#64 false 0 (fun _ => 0#8))) 0)
            have N3 := hideit (rp.out.cellsOther (n6p.out) (row 35 (rtV 0#64 false 0 (fun _ => 0#8))) 0)
            have NE := hideit (below_setCells z3 (ABz3.out) (row 35 (rtV 0#64 false 0 (fun _ => 0#8))) 0 _ rF.out)
            refine xst rfl (y1.setCells z3 0 (row 35 (rtV 0#64 false 0 (fun _ => 0#8)))) (xstore 39 (.tmp 6) (.tmp 93) rfl z3 35 _ (rtV 0#64 false 0 (fun _ => 0#8)) rfl rfl q6.out inf39 (fun j _ => rt_one _ _ _ _ j)) ?_
            simp only [Act.put]
            generalize y1.setCells z3 0 (row 35 (rtV 0#64 false 0 (fun _ => 0#8))) = x3 at N0 N1 N2 N3 NE ⊢
            replace q6 := N0
            replace q3 := N1
            replace q4 := N2
            replace rp := N3
            replace rF := NE
            clear N0 N1 N2 N3 NE
            refine xm [some (.int .i64 160)] (by kernel_rfl) (by simp [xr, go_sem]) ?_
            simp only [xw, p0, p1, p2, p3]
            go_wp2
            refine bodyPost_ret (ret_row2 rfl rfl q6.out Tryd.underlying39 rfl inf39) rfl ?_
            exact .inr ⟨(fun q => by have q1 := q.1; rw [hm] at q1; cases q1), rfl, rF.out⟩
end Go.Proofs.YtgjabfjkokpkiaaDoor
