/-
  May a header be: the program's answer and the document's.
-/
import Derived.Test.YtcipkfalnjgghaaHc2
namespace Go.Proofs.Ytcipkfalnjgghaa
open Go.RowKit Go.BigFrame
theorem check_ok (h : Hd) (w : World) (hk : okH h) : Calls Try.prog 57 #[.agg (row 24 (hdv h)).toArray] w fun e w' => e = .returned (.int .i64 0) ∧ Ext w w' := by
  obtain ⟨⟨a1, a2, a3, a4, a5, a6⟩, a7⟩ := hk
  exact ck_2311 h w a2 a3 a4 a5 a6 a1 a7
theorem check_no (h : Hd) (w : World) (hk : ¬ okH h) : Calls Try.prog 57 #[.agg (row 24 (hdv h)).toArray] w fun e w' => e = .returned (.int .i64 1) ∧ Ext w w' := by
  by_cases a6 : 1 ≤ h.g.toNat
  · by_cases a1 : 1 ≤ h.se ∧ h.se ≤ 1024
    · by_cases a2 : 1 ≤ h.sl ∧ h.sl ≤ 8
      · by_cases a3 : 16 ≤ h.jo ∧ h.jo ≤ 256
        · by_cases a4 : 1 ≤ h.sg ∧ h.sg ≤ 16
          · by_cases a5 : h.sg + 10 ≤ h.jo
            · exact ck_2310 h w a1 a2 a3 a4 a5 a6 fun a7 => hk ⟨⟨a6, a1, a2, a3, a4, a5⟩, a7⟩
            · exact ck_221 h w a1 a2 a3 a4 a5 a6
          · exact ck_211 h w a1 a2 a3 a4 a6
        · exact ck_201 h w a1 a2 a3 a6
      · by_cases a3 : 16 ≤ h.jo ∧ h.jo ≤ 256
        · by_cases a4 : 1 ≤ h.sg ∧ h.sg ≤ 16
          · by_cases a5 : h.sg + 10 ≤ h.jo
            · exact ck_131 h w a1 a2 a3 a4 a5 a6
            · exact ck_121 h w a1 a2 a3 a4 a5 a6
          · exact ck_111 h w a1 a2 a3 a4 a6
        · exact ck_101 h w a1 a2 a3 a6
    · by_cases a3 : 16 ≤ h.jo ∧ h.jo ≤ 256
      · by_cases a4 : 1 ≤ h.sg ∧ h.sg ≤ 16
        · by_cases a5 : h.sg + 10 ≤ h.jo
          · exact ck_031 h w a1 a3 a4 a5 a6
          · exact ck_021 h w a1 a3 a4 a5 a6
        · exact ck_011 h w a1 a3 a4 a6
      · exact ck_001 h w a1 a3 a6
  · by_cases a1 : 1 ≤ h.se ∧ h.se ≤ 1024
    · by_cases a2 : 1 ≤ h.sl ∧ h.sl ≤ 8
      · by_cases a3 : 16 ≤ h.jo ∧ h.jo ≤ 256
        · by_cases a4 : 1 ≤ h.sg ∧ h.sg ≤ 16
          · by_cases a5 : h.sg + 10 ≤ h.jo
            · exact ck_230 h w a1 a2 a3 a4 a5 a6
            · exact ck_220 h w a1 a2 a3 a4 a5 a6
          · exact ck_210 h w a1 a2 a3 a4 a6
        · exact ck_200 h w a1 a2 a3 a6
      · by_cases a3 : 16 ≤ h.jo ∧ h.jo ≤ 256
        · by_cases a4 : 1 ≤ h.sg ∧ h.sg ≤ 16
          · by_cases a5 : h.sg + 10 ≤ h.jo
            · exact ck_130 h w a1 a2 a3 a4 a5 a6
            · exact ck_120 h w a1 a2 a3 a4 a5 a6
          · exact ck_110 h w a1 a2 a3 a4 a6
        · exact ck_100 h w a1 a2 a3 a6
    · by_cases a3 : 16 ≤ h.jo ∧ h.jo ≤ 256
      · by_cases a4 : 1 ≤ h.sg ∧ h.sg ≤ 16
        · by_cases a5 : h.sg + 10 ≤ h.jo
          · exact ck_030 h w a1 a3 a4 a5 a6
          · exact ck_020 h w a1 a3 a4 a5 a6
        · exact ck_010 h w a1 a3 a4 a6
      · exact ck_000 h w a1 a3 a6
end Go.Proofs.Ytcipkfalnjgghaa
