/-
  Kna, Liv.
-/
import Derived.Test.YtapmheocllicnaaDoorNod
import Derived.Test.YtapmheocllicnaaDoorBld
import Derived.Test.YtapmheocllicnaaDoorChk
namespace Go.Proofs.YtapmheocllicnaaDoor
def laF (j : Nat) : BitVec 8 := BitVec.ofNat 8 ([0, 97].getD j 0)
def law : List Nat := [6389760, 0, 0, 0, 0, 0, 0, 0, 0, 0, 0, 0, 0, 0, 0, 16, 6389760, 655360, 4026538076, 1073742468, 253355526, 16951296, 3485466662, 23183371, 3034648, 3355758920, 785321477, 31023676, 1741433213, 1830418101, 3001986082, 634560146, 3424737739, 3982651444, 2045387439, 2456841292, 2071090699, 1139462019, 3180914899, 2938626661, 330313499, 457823221, 4100006123, 1295513998, 2061560945, 650716850, 1427388473, 3380104739, 1794483364, 3926958857, 3195530071, 3746239952, 1749323361, 207712754, 2216400704, 4034496570, 1422726554, 1346769633, 3883306500, 1466605196, 1198903426, 1030632483, 3842212249, 662850484]
def las : List (List Nat) := [[1779033703, 3144134277, 1013904242, 2773480762, 1359893119, 2600822924, 528734635, 1541459225], [4234807373, 1779033703, 3144134277, 1013904242, 2569626274, 1359893119, 2600822924, 528734635], [2114862923, 4234807373, 1779033703, 3144134277, 717041094, 2569626274, 1359893119, 2600822924], [1142593479, 2114862923, 4234807373, 1779033703, 1683146146, 717041094, 2569626274, 1359893119], [2318015910, 1142593479, 2114862923, 4234807373, 1925598345, 1683146146, 717041094, 2569626274], [1217461213, 2318015910, 1142593479, 2114862923, 254318674, 1925598345, 1683146146, 717041094], [3563956965, 1217461213, 2318015910, 1142593479, 994065175, 254318674, 1925598345, 1683146146], [1022862016, 3563956965, 1217461213, 2318015910, 608903197, 994065175, 254318674, 1925598345], [3231042030, 1022862016, 3563956965, 1217461213, 638790865, 608903197, 994065175, 254318674], [2030621953, 3231042030, 1022862016, 3563956965, 1143953443, 638790865, 608903197, 994065175], [1586405888, 2030621953, 3231042030, 1022862016, 3846738499, 1143953443, 638790865, 608903197], [133082022, 1586405888, 2030621953, 3231042030, 2939170775, 3846738499, 1143953443, 638790865], [1652652775, 133082022, 1586405888, 2030621953, 1562612818, 2939170775, 3846738499, 1143953443], [139083989, 1652652775, 133082022, 1586405888, 810783736, 1562612818, 2939170775, 3846738499], [735947242, 139083989, 1652652775, 133082022, 434657981, 810783736, 1562612818, 2939170775], [3573847428, 735947242, 139083989, 1652652775, 4280826891, 434657981, 810783736, 1562612818], [123109804, 3573847428, 735947242, 139083989, 3579436222, 4280826891, 434657981, 810783736], [291625813, 123109804, 3573847428, 735947242, 3148115900, 3579436222, 4280826891, 434657981], [3840505234, 291625813, 123109804, 3573847428, 3789874266, 3148115900, 3579436222, 4280826891], [2100163766, 3840505234, 291625813, 123109804, 2622850794, 3789874266, 3148115900, 3579436222], [1036082077, 2100163766, 3840505234, 291625813, 1115920893, 2622850794, 3789874266, 3148115900], [979192192, 1036082077, 2100163766, 3840505234, 920511269, 1115920893, 2622850794, 3789874266], [3412570005, 979192192, 1036082077, 2100163766, 995314480, 920511269, 1115920893, 2622850794], [385284027, 3412570005, 979192192, 1036082077, 3356866791, 995314480, 920511269, 1115920893], [1089547077, 385284027, 3412570005, 979192192, 3229528399, 3356866791, 995314480, 920511269], [95737833, 1089547077, 385284027, 3412570005, 777984377, 3229528399, 3356866791, 995314480], [2187875320, 95737833, 1089547077, 385284027, 459296602, 777984377, 3229528399, 3356866791], [3276939752, 2187875320, 95737833, 1089547077, 3141984261, 459296602, 777984377, 3229528399], [1354425369, 3276939752, 2187875320, 95737833, 2535885200, 3141984261, 459296602, 777984377], [1028360058, 1354425369, 3276939752, 2187875320, 3776029656, 2535885200, 3141984261, 459296602], [1974184613, 1028360058, 1354425369, 3276939752, 203060654, 3776029656, 2535885200, 3141984261], [630673161, 1974184613, 1028360058, 1354425369, 3427924118, 203060654, 3776029656, 2535885200], [14923561, 630673161, 1974184613, 1028360058, 2952933419, 3427924118, 203060654, 3776029656], [2835388681, 14923561, 630673161, 1974184613, 1224483462, 2952933419, 3427924118, 203060654], [2776798017, 2835388681, 14923561, 630673161, 1497454075, 1224483462, 2952933419, 3427924118], [150117359, 2776798017, 2835388681, 14923561, 2481375645, 1497454075, 1224483462, 2952933419], [642395888, 150117359, 2776798017, 2835388681, 2793401732, 2481375645, 1497454075, 1224483462], [507956561, 642395888, 150117359, 2776798017, 1272729861, 2793401732, 2481375645, 1497454075], [3325171532, 507956561, 642395888, 150117359, 658904449, 1272729861, 2793401732, 2481375645], [3094166357, 3325171532, 507956561, 642395888, 2003189913, 658904449, 1272729861, 2793401732], [2089632278, 3094166357, 3325171532, 507956561, 68515412, 2003189913, 658904449, 1272729861], [1887742008, 2089632278, 3094166357, 3325171532, 3624236312, 68515412, 2003189913, 658904449], [2627917669, 1887742008, 2089632278, 3094166357, 2600826036, 3624236312, 68515412, 2003189913], [1682709350, 2627917669, 1887742008, 2089632278, 1222299082, 2600826036, 3624236312, 68515412], [2493391851, 1682709350, 2627917669, 1887742008, 710479221, 1222299082, 2600826036, 3624236312], [736293539, 2493391851, 1682709350, 2627917669, 2229601563, 710479221, 1222299082, 2600826036], [2577307588, 736293539, 2493391851, 1682709350, 1028115510, 2229601563, 710479221, 1222299082], [300555512, 2577307588, 736293539, 2493391851, 4202367256, 1028115510, 2229601563, 710479221], [606713436, 300555512, 2577307588, 736293539, 1393777470, 4202367256, 1028115510, 2229601563], [3453975361, 606713436, 300555512, 2577307588, 3404044990, 1393777470, 4202367256, 1028115510], [1886028213, 3453975361, 606713436, 300555512, 797516805, 3404044990, 1393777470, 4202367256], [3950790761, 1886028213, 3453975361, 606713436, 2638396180, 797516805, 3404044990, 1393777470], [4204769052, 3950790761, 1886028213, 3453975361, 1821978050, 2638396180, 797516805, 3404044990], [2888453000, 4204769052, 3950790761, 1886028213, 1183772860, 1821978050, 2638396180, 797516805], [3541449736, 2888453000, 4204769052, 3950790761, 2061541813, 1183772860, 1821978050, 2638396180], [3711578575, 3541449736, 2888453000, 4204769052, 1109726769, 2061541813, 1183772860, 1821978050], [2362008421, 3711578575, 3541449736, 2888453000, 406289955, 1109726769, 2061541813, 1183772860], [20694402, 2362008421, 3711578575, 3541449736, 1924675356, 406289955, 1109726769, 2061541813], [4075084426, 20694402, 2362008421, 3711578575, 4118201361, 1924675356, 406289955, 1109726769], [562898302, 4075084426, 20694402, 2362008421, 2186873212, 4118201361, 1924675356, 406289955], [2536270150, 562898302, 4075084426, 20694402, 1799375217, 2186873212, 4118201361, 1924675356], [1057982813, 2536270150, 562898302, 4075084426, 776219683, 1799375217, 2186873212, 4118201361], [511037555, 1057982813, 2536270150, 562898302, 2671645384, 776219683, 1799375217, 2186873212], [728959269, 511037555, 1057982813, 2536270150, 2593003905, 2671645384, 776219683, 1799375217], [2552267538, 728959269, 511037555, 1057982813, 537154919, 2593003905, 2671645384, 776219683]]
def lawf (j : Nat) : BitVec 32 := BitVec.ofNat 32 (law.getD j 0)
def lasf (n j : Nat) : BitVec 32 := BitVec.ofNat 32 ((las.getD n []).getD j 0)
theorem la_words : ∀ t, t < 16 → w0 (fun j => fillF laF 2 (64 * 0 + j)) t = lawf t := by decide +kernel
theorem la_next : ∀ m, m < 48 → nextW lawf (16 + m) = lawf (16 + m) := by decide +kernel
theorem la_rnd : ∀ n, n < 64 → ∀ j, j < 8 → rnd (kT n) (lawf n) (lasf n) j = lasf (n + 1) j := by decide +kernel
theorem la_first : ∀ j, j < 8 → fT j = lasf 0 j := by decide +kernel
theorem la_wK : ∀ m, m ≤ 48 → ∀ j, j < 16 + m → wK (fun j => fillF laF 2 (64 * 0 + j)) m j = lawf j
  | 0, _, j, hj => by
    show (if j < 16 then w0 (fun j => fillF laF 2 (64 * 0 + j)) j else 0#32) = _
    rw [if_pos (by omega)]
    exact la_words j (by omega)
  | m + 1, hm, j, hj => by
    have ih := la_wK m (by omega)
    show (if j = 16 + m then nextW (wK (fun j => fillF laF 2 (64 * 0 + j)) m) (16 + m) else wK (fun j => fillF laF 2 (64 * 0 + j)) m j) = _
    by_cases e : j = 16 + m
    · rw [if_pos e, e, ← la_next m (by omega)]
      unfold nextW
      rw [ih _ (by omega), ih _ (by omega), ih _ (by omega), ih _ (by omega)]
    · rw [if_neg e]
      exact ih j (by omega)
theorem la_rndK : ∀ n, n ≤ 64 → ∀ j, j < 8 → rndK (wordsW (fun j => fillF laF 2 (64 * 0 + j))) fT n j = lasf n j
  | 0, _, j, hj => la_first j hj
  | n + 1, hn, j, hj => by
    show rnd (kT n) (wordsW (fun j => fillF laF 2 (64 * 0 + j)) n) (rndK (wordsW (fun j => fillF laF 2 (64 * 0 + j))) fT n) j = _
    rw [show wordsW (fun j => fillF laF 2 (64 * 0 + j)) n = lawf n from la_wK 48 (by omega) n (by omega)]
    rw [rnd_congr _ _ _ (lasf n) (la_rndK n (by omega)) j hj]
    exact la_rnd n (by omega) j hj
theorem la_state (j : Nat) (hj : j < 8) : chain (fillF laF 2) (pieces 2) j = sW (fT j) (lasf 64 j) := by
  show sW (fT j) (rndK (wordsW (fun j => fillF laF 2 (64 * 0 + j))) fT 64 j) = _
  rw [la_rndK 64 (by omega) j hj]
theorem la_dig (i : Nat) (hi : i < 32) : shaF laF 2 i = (sW (fT (i / 4)) (lasf 64 (i / 4)) >>> (24 - 8 * (i % 4))).setWidth 8 := by
  unfold shaF digF
  rw [la_state (i / 4) (by omega)]
theorem la_0 : shaF laF 2 0 = 2#8 := by rw [la_dig 0 (by omega)]; decide +kernel
def lbF (j : Nat) : BitVec 8 := BitVec.ofNat 8 ([0, 98].getD j 0)
def lbw : List Nat := [6455296, 0, 0, 0, 0, 0, 0, 0, 0, 0, 0, 0, 0, 0, 0, 16, 6455296, 655360, 268441757, 1073742468, 257501702, 16951296, 2956988445, 23248907, 170622508, 1208275146, 282136851, 29857340, 2880603702, 3927572827, 895364123, 3941868066, 2615955547, 3830574433, 3018392781, 4266424405, 1181290809, 317756991, 3960119765, 2114331420, 2634724978, 845105942, 3131205259, 1858244433, 1763618240, 2823127510, 2259330043, 2841058606, 2013895675, 3627468444, 3412643306, 1629930080, 3357389136, 1898703292, 3289256200, 3675103297, 952160627, 4218033475, 2603910011, 2778303394, 2221710464, 2953237389, 3470620066, 885218466]
def lbs : List (List Nat) := [[1779033703, 3144134277, 1013904242, 2773480762, 1359893119, 2600822924, 528734635, 1541459225], [4234872909, 1779033703, 3144134277, 1013904242, 2569691810, 1359893119, 2600822924, 528734635], [2056325875, 4234872909, 1779033703, 3144134277, 725629286, 2569691810, 1359893119, 2600822924], [90638546, 2056325875, 4234872909, 1779033703, 2041663762, 725629286, 2569691810, 1359893119], [1864205828, 90638546, 2056325875, 4234872909, 14271103, 2041663762, 725629286, 2569691810], [2854614371, 1864205828, 90638546, 2056325875, 3649038861, 14271103, 2041663762, 725629286], [1956518992, 2854614371, 1864205828, 90638546, 3922198562, 3649038861, 14271103, 2041663762], [926389501, 1956518992, 2854614371, 1864205828, 1185654617, 3922198562, 3649038861, 14271103], [3429072242, 926389501, 1956518992, 2854614371, 3503408806, 1185654617, 3922198562, 3649038861], [2352856277, 3429072242, 926389501, 1956518992, 3971030610, 3503408806, 1185654617, 3922198562], [2546963255, 2352856277, 3429072242, 926389501, 216373674, 3971030610, 3503408806, 1185654617], [96513365, 2546963255, 2352856277, 3429072242, 1854210029, 216373674, 3971030610, 3503408806], [1815552662, 96513365, 2546963255, 2352856277, 2304741740, 1854210029, 216373674, 3971030610], [4119694698, 1815552662, 96513365, 2546963255, 684635772, 2304741740, 1854210029, 216373674], [2048349414, 4119694698, 1815552662, 96513365, 3428832743, 684635772, 2304741740, 1854210029], [13517724, 2048349414, 4119694698, 1815552662, 630345632, 3428832743, 684635772, 2304741740], [2877083861, 13517724, 2048349414, 4119694698, 2168899303, 630345632, 3428832743, 684635772], [2249048626, 2877083861, 13517724, 2048349414, 839632202, 2168899303, 630345632, 3428832743], [1335100753, 2249048626, 2877083861, 13517724, 3225357481, 839632202, 2168899303, 630345632], [754283679, 1335100753, 2249048626, 2877083861, 1965866784, 3225357481, 839632202, 2168899303], [3820210500, 754283679, 1335100753, 2249048626, 3330609095, 1965866784, 3225357481, 839632202], [2257949690, 3820210500, 754283679, 1335100753, 3741258902, 3330609095, 1965866784, 3225357481], [3092962814, 2257949690, 3820210500, 754283679, 4177155881, 3741258902, 3330609095, 1965866784], [1849451023, 3092962814, 2257949690, 3820210500, 3456724328, 4177155881, 3741258902, 3330609095], [185608255, 1849451023, 3092962814, 2257949690, 103467181, 3456724328, 4177155881, 3741258902], [584225557, 185608255, 1849451023, 3092962814, 3149074478, 103467181, 3456724328, 4177155881], [1517228612, 584225557, 185608255, 1849451023, 1315432265, 3149074478, 103467181, 3456724328], [3694051146, 1517228612, 584225557, 185608255, 120129732, 1315432265, 3149074478, 103467181], [1948650294, 3694051146, 1517228612, 584225557, 757545562, 120129732, 1315432265, 3149074478], [3738737187, 1948650294, 3694051146, 1517228612, 1223038917, 757545562, 120129732, 1315432265], [3704157373, 3738737187, 1948650294, 3694051146, 373886120, 1223038917, 757545562, 120129732], [1282166380, 3704157373, 3738737187, 1948650294, 1522812772, 373886120, 1223038917, 757545562], [208942641, 1282166380, 3704157373, 3738737187, 3532693874, 1522812772, 373886120, 1223038917], [2135771870, 208942641, 1282166380, 3704157373, 4016817320, 3532693874, 1522812772, 373886120], [3337933918, 2135771870, 208942641, 1282166380, 1531292031, 4016817320, 3532693874, 1522812772], [2794245146, 3337933918, 2135771870, 208942641, 3832171134, 1531292031, 4016817320, 3532693874], [3520203074, 2794245146, 3337933918, 2135771870, 4247979291, 3832171134, 1531292031, 4016817320], [1399565598, 3520203074, 2794245146, 3337933918, 1436361755, 4247979291, 3832171134, 1531292031], [556333575, 1399565598, 3520203074, 2794245146, 3250010100, 1436361755, 4247979291, 3832171134], [3537354301, 556333575, 1399565598, 3520203074, 1818146319, 3250010100, 1436361755, 4247979291], [1633275424, 3537354301, 556333575, 1399565598, 68979402, 1818146319, 3250010100, 1436361755], [1241843212, 1633275424, 3537354301, 556333575, 766032962, 68979402, 1818146319, 3250010100], [2928499011, 1241843212, 1633275424, 3537354301, 1449501851, 766032962, 68979402, 1818146319], [961472601, 2928499011, 1241843212, 1633275424, 2369661974, 1449501851, 766032962, 68979402], [137089296, 961472601, 2928499011, 1241843212, 138232419, 2369661974, 1449501851, 766032962], [4086728805, 137089296, 961472601, 2928499011, 4022124518, 138232419, 2369661974, 1449501851], [901355226, 4086728805, 137089296, 961472601, 1162641001, 4022124518, 138232419, 2369661974], [852959688, 901355226, 4086728805, 137089296, 1552275749, 1162641001, 4022124518, 138232419], [779850525, 852959688, 901355226, 4086728805, 2761712997, 1552275749, 1162641001, 4022124518], [2944090217, 779850525, 852959688, 901355226, 786059604, 2761712997, 1552275749, 1162641001], [2071699792, 2944090217, 779850525, 852959688, 4247267684, 786059604, 2761712997, 1552275749], [3517386555, 2071699792, 2944090217, 779850525, 3660201286, 4247267684, 786059604, 2761712997], [3944759254, 3517386555, 2071699792, 2944090217, 211103690, 3660201286, 4247267684, 786059604], [2227412099, 3944759254, 3517386555, 2071699792, 1956356162, 211103690, 3660201286, 4247267684], [1697433153, 2227412099, 3944759254, 3517386555, 329677007, 1956356162, 211103690, 3660201286], [3396503209, 1697433153, 2227412099, 3944759254, 3735017919, 329677007, 1956356162, 211103690], [1542457303, 3396503209, 1697433153, 2227412099, 4108676117, 3735017919, 329677007, 1956356162], [353917764, 1542457303, 3396503209, 1697433153, 638709228, 4108676117, 3735017919, 329677007], [2745931581, 353917764, 1542457303, 3396503209, 4015826802, 638709228, 4108676117, 3735017919], [1410664611, 2745931581, 353917764, 1542457303, 2339662298, 4015826802, 638709228, 4108676117], [2604301465, 1410664611, 2745931581, 353917764, 500431227, 2339662298, 4015826802, 638709228], [1353547558, 2604301465, 1410664611, 2745931581, 1721408792, 500431227, 2339662298, 4015826802], [2326124379, 1353547558, 2604301465, 1410664611, 86945301, 1721408792, 500431227, 2339662298], [2715829449, 2326124379, 1353547558, 2604301465, 2350874495, 86945301, 1721408792, 500431227], [3990966010, 2715829449, 2326124379, 1353547558, 961559441, 2350874495, 86945301, 1721408792]]
def lbwf (j : Nat) : BitVec 32 := BitVec.ofNat 32 (lbw.getD j 0)
def lbsf (n j : Nat) : BitVec 32 := BitVec.ofNat 32 ((lbs.getD n []).getD j 0)
theorem lb_words : ∀ t, t < 16 → w0 (fun j => fillF lbF 2 (64 * 0 + j)) t = lbwf t := by decide +kernel
theorem lb_next : ∀ m, m < 48 → nextW lbwf (16 + m) = lbwf (16 + m) := by decide +kernel
theorem lb_rnd : ∀ n, n < 64 → ∀ j, j < 8 → rnd (kT n) (lbwf n) (lbsf n) j = lbsf (n + 1) j := by decide +kernel
theorem lb_first : ∀ j, j < 8 → fT j = lbsf 0 j := by decide +kernel
theorem lb_wK : ∀ m, m ≤ 48 → ∀ j, j < 16 + m → wK (fun j => fillF lbF 2 (64 * 0 + j)) m j = lbwf j
  | 0, _, j, hj => by
    show (if j < 16 then w0 (fun j => fillF lbF 2 (64 * 0 + j)) j else 0#32) = _
    rw [if_pos (by omega)]
    exact lb_words j (by omega)
  | m + 1, hm, j, hj => by
    have ih := lb_wK m (by omega)
    show (if j = 16 + m then nextW (wK (fun j => fillF lbF 2 (64 * 0 + j)) m) (16 + m) else wK (fun j => fillF lbF 2 (64 * 0 + j)) m j) = _
    by_cases e : j = 16 + m
    · rw [if_pos e, e, ← lb_next m (by omega)]
      unfold nextW
      rw [ih _ (by omega), ih _ (by omega), ih _ (by omega), ih _ (by omega)]
    · rw [if_neg e]
      exact ih j (by omega)
theorem lb_rndK : ∀ n, n ≤ 64 → ∀ j, j < 8 → rndK (wordsW (fun j => fillF lbF 2 (64 * 0 + j))) fT n j = lbsf n j
  | 0, _, j, hj => lb_first j hj
  | n + 1, hn, j, hj => by
    show rnd (kT n) (wordsW (fun j => fillF lbF 2 (64 * 0 + j)) n) (rndK (wordsW (fun j => fillF lbF 2 (64 * 0 + j))) fT n) j = _
    rw [show wordsW (fun j => fillF lbF 2 (64 * 0 + j)) n = lbwf n from lb_wK 48 (by omega) n (by omega)]
    rw [rnd_congr _ _ _ (lbsf n) (lb_rndK n (by omega)) j hj]
    exact lb_rnd n (by omega) j hj
theorem lb_state (j : Nat) (hj : j < 8) : chain (fillF lbF 2) (pieces 2) j = sW (fT j) (lbsf 64 j) := by
  show sW (fT j) (rndK (wordsW (fun j => fillF lbF 2 (64 * 0 + j))) fT 64 j) = _
  rw [lb_rndK 64 (by omega) j hj]
theorem lb_dig (i : Nat) (hi : i < 32) : shaF lbF 2 i = (sW (fT (i / 4)) (lbsf 64 (i / 4)) >>> (24 - 8 * (i % 4))).setWidth 8 := by
  unfold shaF digF
  rw [lb_state (i / 4) (by omega)]
theorem lb_0 : shaF lbF 2 0 = 87#8 := by rw [lb_dig 0 (by omega)]; decide +kernel
def aF : Nat → BitVec 8 := fun _ => 97#8
def bF : Nat → BitVec 8 := fun _ => 98#8
theorem leaf_a : leafF aF 1 0 = 2#8 := by
  rw [← la_0]
  unfold leafF
  rw [shaF_congr (leafT aF) laF 2 (fun j hj => by
    rcases (by omega : j = 0 ∨ j = 1) with rfl | rfl <;> rfl)]
theorem leaf_b : leafF bF 1 0 = 87#8 := by
  rw [← lb_0]
  unfold leafF
  rw [shaF_congr (leafT bF) lbF 2 (fun j hj => by
    rcases (by omega : j = 0 ∨ j = 1) with rfl | rfl <;> rfl)]
end Go.Proofs.YtapmheocllicnaaDoor

namespace Go.Proofs.YtapmheocllicnaaDoor
open Go.RowKit Go.BigFrame
def dAB (i : Nat) : Nat → BitVec 8 := if i = 0 then leafF aF 1 else leafF bF 1
theorem rowAB : (row 64 (lfV dAB)) = row 32 (yv (leafF aF 1)) ++ row 32 (yv (leafF bF 1)) := by
  symm
  refine row_append 32 32 _ _ _ (fun j hj => ?_) (fun j hj => ?_)
  · unfold lfV
    rw [show j / 32 = 0 by omega, show j % 32 = j by omega]
    rfl
  · unfold lfV
    rw [show (32 + j) / 32 = 1 by omega, show (32 + j) % 32 = j by omega]
    rfl
theorem bs22 (f g : Nat → BitVec 8) (w : World) : (Instr.buildSlice 22 2 #[(0, .agg (row 32 (yv f)).toArray), (1, .agg (row 32 (yv g)).toArray)]).run Tryd.prog w = .ok (.slice (some ⟨w.heap.size, 0, none⟩) 2 2) (w.alloc (.cells (row 32 (yv f) ++ row 32 (yv g)).toArray 25)) := by
  kernel_rfl
theorem wpList_bslice {P : Program} {w : World} {ops : Array Oper} {rest : List Oper} {o : Oper} {a : Act} {Q : Exit → Act → World → Prop} (hg : o.guard = none) (t : TypeId) (n : Nat) (l : List (Nat × Operand)) (ho : o.op = .buildSlice t n l.toArray) (v : Value) (w' : World)
    (hr : (Instr.buildSlice t n (l.map fun x => (x.1, a.eval x.2)).toArray).run P w = .ok v w') (h : wpList P ops Q rest (a.put o.dst v) w') : wpList P ops Q (o :: rest) a w := by
  refine wpList_to hg v w' ?_ h
  unfold execOp
  rw [ho]
  simp only [List.map_toArray, Sem.run_bind, hr, Result.andThen_ok, Sem.run_pure]
theorem leaf_range {b n : Nat} {d : Nat → Nat → BitVec 8} {w : World} (h : RowAt b (n * 32) (lfV d) w) (i : Nat) (hi : i < n) : w.rangeAt b (i * 32) (row 32 (yv (d i))) := fun j x hx => by
  obtain ⟨hj, rfl⟩ := row_some hx
  rw [h.1 (i * 32 + j) (by omega), lf_row d i j hj]
theorem ok1 : (chL (dAB 1) 1 (nodeB 2 dAB 0) (List.range 1)).2 ∧ ∀ t, t < 32 → rootF 2 (chL (dAB 1) 1 (nodeB 2 dAB 0) (List.range 1)).1 t = rootF 2 (digB 2 dAB 1 0) t := by
  refine ⟨⟨trivial, fun t ht => ?_⟩, fun t _ => rfl⟩
  show nodeC dAB 2 0 (32 * 1 + t) = dAB 1 t
  unfold nodeC
  rw [if_pos (by omega), show 16 * 0 + (32 * 1 + t) / 32 = 1 by omega, show (32 * 1 + t) % 32 = t by omega]
theorem no0 : ¬ ((chL (dAB 1) 0 (nodeB 2 dAB 0) (List.range 1)).2 ∧ ∀ t, t < 32 → rootF 2 (chL (dAB 1) 0 (nodeB 2 dAB 0) (List.range 1)).1 t = rootF 2 (digB 2 dAB 1 0) t) := by
  rintro ⟨⟨_, h⟩, _⟩
  have h1 : nodeC dAB 2 0 (32 * 0 + 0) = dAB 1 0 := h 0 (by decide)
  have h2 : nodeC dAB 2 0 (32 * 0 + 0) = leafF aF 1 0 := rfl
  have h3 : dAB 1 0 = leafF bF 1 0 := rfl
  rw [h2, h3, leaf_a, leaf_b] at h1
  revert h1
  decide
theorem neAB : eqN 32 (dAB 0) (dAB 1) = false := by
  cases h : eqN 32 (dAB 0) (dAB 1) with
  | false => rfl
  | true =>
    exfalso
    have h1 : leafF aF 1 0 = leafF bF 1 0 := eqN_iff.1 h 0 (by decide)
    rw [leaf_a, leaf_b] at h1
    revert h1
    decide
theorem lv17 : lvN 17 = 2 := rfl
set_option maxRecDepth 20000 in
set_option maxHeartbeats 8000000 in
theorem lives_any (w : World) (hC : TabC w) : Calls Tryd.prog 11 #[] w fun e w' => e = .returned (.bool true) ∧ Ext w w' := by
  have hz := zero24
  obtain ⟨w1, hcv1, hbv1, hX1⟩ := constB w #[.int .u8 97] 1 aF (fun j hj => by
    have : j = 0 := by omega
    subst this
    rfl)
  replace hC := hideit hC
  go_enter Tryd.func11, Tryd.ntmps11
  go_upto_region 1 with (fail)
  refine wp_region_lit ?_
  refine wpList_to rfl (.slice (some ⟨w.heap.size, 0, none⟩) 1 1) (w.alloc (.cells #[.int .u8 97] 5)) (by simp [go_sem]) ?_
  simp only [Act.put, List.setIfInBounds_toArray, List.set_cons_zero, List.set_cons_succ]
  refine wpList_to rfl (.slice (some ⟨w.heap.size, 0, none⟩) 1 1) (w1) (by simp [go_sem, hcv1]) ?_
  simp only [Act.put, List.setIfInBounds_toArray, List.set_cons_zero, List.set_cons_succ]
  refine wpList_call rfl (by simp [go_sem]) ((leaf_any _ 1 aF w1 hbv1 (hC.out.ext hX1) (by decide)).mono ?_)
  rintro e w2 ⟨rfl, hX2⟩
  refine ⟨_, rfl, ?_⟩
  simp only [Act.put, List.setIfInBounds_toArray, List.set_cons_zero, List.set_cons_succ]
  have hE2 := Ext.trans hX1 hX2
  clear hcv1 hbv1 hX1 hX2
  obtain ⟨w3, hcv1, hbv1, hX3⟩ := constB w2 #[.int .u8 98] 1 bF (fun j hj => by
    have : j = 0 := by omega
    subst this
    rfl)
  have hE3 := Ext.trans hE2 hX3
  refine wpList_to rfl (.slice (some ⟨w2.heap.size, 0, none⟩) 1 1) (w2.alloc (.cells #[.int .u8 98] 5)) (by simp [go_sem]) ?_
  simp only [Act.put, List.setIfInBounds_toArray, List.set_cons_zero, List.set_cons_succ]
  refine wpList_to rfl (.slice (some ⟨w2.heap.size, 0, none⟩) 1 1) (w3) (by simp [go_sem, hcv1]) ?_
  simp only [Act.put, List.setIfInBounds_toArray, List.set_cons_zero, List.set_cons_succ]
  refine wpList_call rfl (by simp [go_sem]) ((leaf_any _ 1 bF w3 hbv1 (hC.out.ext hE3) (by decide)).mono ?_)
  rintro e w4 ⟨rfl, hX4⟩
  refine ⟨_, rfl, ?_⟩
  simp only [Act.put, List.setIfInBounds_toArray, List.set_cons_zero, List.set_cons_succ]
  have hE4 := Ext.trans hE3 hX4
  clear hcv1 hbv1 hX3 hE2 hE3 hX4
  have HL : RowAt w4.heap.size 64 (lfV dAB) (w4.alloc (.cells (row 32 (yv (leafF aF 1)) ++ row 32 (yv (leafF bF 1))).toArray 25)) := by
    rw [← rowAB]
    exact RowAt.new w4 64 (lfV dAB) 25
  have hE5 := Ext.trans hE4 ((Below.refl _ w4).alloc (Nat.le_refl _) (.cells (row 32 (yv (leafF aF 1)) ++ row 32 (yv (leafF bF 1))).toArray 25))
  refine wpList_bslice rfl 22 2 [(0, .tmp 10), (1, .tmp 13)] rfl (.slice (some ⟨w4.heap.size, 0, none⟩) 2 2) _ (bs22 _ _ w4) ?_
  simp only [Act.put, List.setIfInBounds_toArray, List.set_cons_zero, List.set_cons_succ]
  generalize w4.alloc (.cells (row 32 (yv (leafF aF 1)) ++ row 32 (yv (leafF bF 1))).toArray 25) = w5 at *
  generalize w4.heap.size = lb at *
  clear hE4
  replace HL := hideit HL
  replace hE5 := hideit hE5
  have kb := build_any 2 (by decide) (by decide) (.slice (some ⟨lb, 0, none⟩) 2 2) dAB w5 (.inr ⟨_, 2, rfl, Nat.le_refl _, HL.out.lie 64 (Nat.le_refl _)⟩) (hC.out.ext hE5.out)
  rw [show lvN 2 = 1 from rfl] at kb
  obtain ⟨RT, hRT⟩ : ∃ RT, RT = (rootF 2 (digB 2 dAB 1 0)) := ⟨_, rfl⟩
  rw [← hRT] at kb
  replace hRT := hideit hRT
  replace kb := hideit kb
  go_upto_region 2 with (fail)
  refine wp_region_lit ?_
  refine wpList_run rfl (.slice (some ⟨lb, 0, none⟩) 2 2) (by simp [go_sem]) ?_
  simp only [Act.put, List.setIfInBounds_toArray, List.set_cons_zero, List.set_cons_succ]
  refine wpList_call rfl (by simp [go_sem]) ((kb.out).mono ?_)
  rintro e w6 ⟨lv, Bs, rfl, hO6, hl6, hX6⟩
  refine ⟨_, rfl, ?_⟩
  simp only [Act.put, List.setIfInBounds_toArray, List.set_cons_zero, List.set_cons_succ]
  obtain ⟨vb, vcap, rfl, -, -, -, hv6⟩ := hO6.lies (by decide)
  have hl0 := (hl6 0 (by decide)).2
  rw [show lc 2 0 = 1 from rfl] at hl0
  have HL6 := HL.out.carry hX6
  have hE6 := Ext.trans hE5.out hX6
  clear kb hO6 hl6 hX6 HL hE5
  refine wpList_run rfl (.tuple #[.slice (some ⟨vb, 0, none⟩) 1 vcap, .agg (row 32 (yv RT)).toArray, .int .i64 0]) (by simp [go_sem]) ?_
  simp only [Act.put, List.setIfInBounds_toArray, List.set_cons_zero, List.set_cons_succ]
  refine wpList_run rfl (.slice (some ⟨vb, 0, none⟩) 1 vcap) (by simp [go_sem]) ?_
  simp only [Act.put, List.setIfInBounds_toArray, List.set_cons_zero, List.set_cons_succ]
  refine wpList_run rfl (.agg (row 32 (yv RT)).toArray) (by simp [go_sem]) ?_
  simp only [Act.put, List.setIfInBounds_toArray, List.set_cons_zero, List.set_cons_succ]
  refine wpList_run rfl (.int .i64 0) (by simp [go_sem]) ?_
  simp only [Act.put, List.setIfInBounds_toArray, List.set_cons_zero, List.set_cons_succ]
  have hX7 : Ext w6 (w6.alloc (.cells (row 32 (yv fun _ => 0#8)).toArray 25)) := (Below.refl _ _).alloc (Nat.le_refl _) _
  have C7 := RowAt.new w6 32 (yv fun _ => 0#8) 25
  have hY7 := below_setCells (w := w6) w6.heap.size (Nat.le_refl _) (row 32 (yv RT)) 0 _ hX7
  have S : Hid (RowAt lb 64 (lfV dAB) ((w6.alloc (.cells (row 32 (yv fun _ => 0#8)).toArray 25)).setCells w6.heap.size 0 (row 32 (yv RT))) ∧ RowAt vb 1 (lvV 2 Bs) ((w6.alloc (.cells (row 32 (yv fun _ => 0#8)).toArray 25)).setCells w6.heap.size 0 (row 32 (yv RT))) ∧ RowAt w6.heap.size 32 (yv RT) ((w6.alloc (.cells (row 32 (yv fun _ => 0#8)).toArray 25)).setCells w6.heap.size 0 (row 32 (yv RT))) ∧ LevAt (Bs 0) 1 (nodeB 2 dAB 0) ((w6.alloc (.cells (row 32 (yv fun _ => 0#8)).toArray 25)).setCells w6.heap.size 0 (row 32 (yv RT))) ∧ TabC ((w6.alloc (.cells (row 32 (yv fun _ => 0#8)).toArray 25)).setCells w6.heap.size 0 (row 32 (yv RT))) ∧ Ext w ((w6.alloc (.cells (row 32 (yv fun _ => 0#8)).toArray 25)).setCells w6.heap.size 0 (row 32 (yv RT)))) :=
    ⟨HL6.carry hY7, hv6.carry hY7, C7.cells, hl0.carry hY7, (hC.out.ext hE6).ext hY7, Ext.trans hE6 hY7⟩
  refine wpList_to rfl (.pointer (some ⟨w6.heap.size, 0, none⟩)) (w6.alloc (.cells (row 32 (yv fun _ => 0#8)).toArray 25)) (by simp [go_sem, hz]) ?_
  simp only [Act.put, List.setIfInBounds_toArray, List.set_cons_zero, List.set_cons_succ]
  refine wpList_run rfl (.slice (some ⟨vb, 0, none⟩) 1 vcap) (by simp [go_sem]) ?_
  simp only [Act.put, List.setIfInBounds_toArray, List.set_cons_zero, List.set_cons_succ]
  refine wpList_store_mid rfl 25 (.tmp 3) (.tmp 19) rfl _ 0 (row 32 (yv RT)).toArray rfl rfl (by rw [row_size]; exact C7.there) (by rw [row_size]; exact info24) (row_one fun _ _ => rfl) ?_
  rw [show (row 32 (yv RT)).toArray.toList = row 32 (yv RT) from rfl]
  generalize (w6.alloc (.cells (row 32 (yv fun _ => 0#8)).toArray 25)).setCells w6.heap.size 0 (row 32 (yv RT)) = w7 at *
  generalize w6.heap.size = rb at *
  clear hX7 C7 hY7 HL6 hv6 hl0 hE6 hC
  simp only [Act.put]
  have lv0 : lvV 2 Bs 0 = .slice (some ⟨Bs 0, 0, none⟩) 1 1 := rfl
  have ev := S.out.2.1.1 0 (by decide)
  rw [lv0] at ev
  clear hz
  go_upto_region 5 with (fail)
  clear ev
  replace S : Hid (RowAt lb 64 (lfV dAB) w7.drew ∧ RowAt vb 1 (lvV 2 Bs) w7.drew ∧ RowAt rb 32 (yv RT) w7.drew ∧ LevAt (Bs 0) 1 (nodeB 2 dAB 0) w7.drew ∧ TabC w7.drew ∧ Ext w w7.drew) := by
    have hXX : Ext w7 w7.drew := (Ext.refl w7).draw
    exact ⟨S.out.1.carry hXX, S.out.2.1.carry hXX, S.out.2.2.1.carry hXX, S.out.2.2.2.1.carry hXX, S.out.2.2.2.2.1.ext hXX, Ext.trans S.out.2.2.2.2.2 hXX⟩
  refine wp_region_lad (fun X => RowAt lb 64 (lfV dAB) X ∧ RowAt vb 1 (lvV 2 Bs) X ∧ RowAt rb 32 (yv RT) X) [(false, 0), (false, 1), (false, 2), (false, 3), (false, 4), (false, 5), (false, 6), (true, 7), (false, 8)] (by kernel_rfl) (by kernel_rfl) (by decide +kernel) (by decide +kernel) (by decide +kernel) (by decide +kernel) ⟨S.out.1, S.out.2.1, S.out.2.2.1⟩ ?_
  refine wpX_f _ (.slice (some ⟨lb, 0, none⟩) 2 2) rfl rfl (fun X _ => by simp [go_sem]) ?_
  simp only [List.getElem_toArray, List.getElem_cons_zero, Act.put, List.setIfInBounds_toArray, List.set_cons_zero, List.set_cons_succ]
  refine wpX_f _ (.pointer (some ⟨lb, 32, none⟩)) rfl rfl (fun X _ => by simp [go_sem]) ?_
  simp only [List.getElem_toArray, List.getElem_cons_zero, List.getElem_cons_succ, Act.put, List.setIfInBounds_toArray, List.set_cons_zero, List.set_cons_succ]
  refine wpX_f _ (.agg (row 32 (yv (dAB 1))).toArray) rfl rfl (fun X hX => exec_loadR 25 (.tmp 36) rfl lb 32 32 _ rfl (leaf_range (n := 2) hX.1 1 (by decide)) Tryd.underlying25 rfl info24) ?_
  simp only [List.getElem_toArray, List.getElem_cons_zero, List.getElem_cons_succ, Act.put, List.setIfInBounds_toArray, List.set_cons_zero, List.set_cons_succ]
  refine wpX_f _ (.slice (some ⟨vb, 0, none⟩) 1 vcap) rfl rfl (fun X _ => by simp [go_sem]) ?_
  simp only [List.getElem_toArray, List.getElem_cons_zero, List.getElem_cons_succ, Act.put, List.setIfInBounds_toArray, List.set_cons_zero, List.set_cons_succ]
  refine wpX_f _ (.pointer (some ⟨vb, 0, none⟩)) rfl rfl (fun X _ => by simp [go_sem]) ?_
  simp only [List.getElem_toArray, List.getElem_cons_zero, List.getElem_cons_succ, Act.put, List.setIfInBounds_toArray, List.set_cons_zero, List.set_cons_succ]
  refine wpX_f _ (.slice (some ⟨Bs 0, 0, none⟩) 1 1) rfl rfl (fun X hX => by have e := hX.2.1.1 0 (by decide); rw [lv0] at e; simp [go_sem, e]) ?_
  simp only [List.getElem_toArray, List.getElem_cons_zero, List.getElem_cons_succ, Act.put, List.setIfInBounds_toArray, List.set_cons_zero, List.set_cons_succ]
  refine wpX_f _ (.agg (row 32 (yv RT)).toArray) rfl rfl (fun X hX => exec_loadR 25 (.tmp 3) rfl rb 0 32 _ rfl hX.2.2.range Tryd.underlying25 rfl info24) ?_
  simp only [List.getElem_toArray, List.getElem_cons_zero, List.getElem_cons_succ, Act.put, List.setIfInBounds_toArray, List.set_cons_zero, List.set_cons_succ]
  have kc := check_go 2 1 1 (by decide) (by decide) (by decide) (dAB 1) RT _ (ndV (Bs 0)) (fun _ => 512) (nodeB 2 dAB 0) w7.drew (S.out.2.2.2.1.parts) (S.out.2.2.2.2.1) rfl (fun _ _ => rfl)
  refine wpX_call _ rfl rfl (by simp [go_sem]) (kc.mono ?_)
  rintro e w8 ⟨z, rfl, hXX, hz9⟩
  obtain rfl : z = 0 := by
    rcases hz9 with ⟨h, h'⟩ | ⟨h, h'⟩
    · exact h
    · exact absurd (by rw [hRT.out]; exact ok1) h'
  replace S : Hid (RowAt lb 64 (lfV dAB) w8 ∧ RowAt vb 1 (lvV 2 Bs) w8 ∧ RowAt rb 32 (yv RT) w8 ∧ LevAt (Bs 0) 1 (nodeB 2 dAB 0) w8 ∧ TabC w8 ∧ Ext w w8) := ⟨S.out.1.carry hXX, S.out.2.1.carry hXX, S.out.2.2.1.carry hXX, S.out.2.2.2.1.carry hXX, S.out.2.2.2.2.1.ext hXX, Ext.trans S.out.2.2.2.2.2 hXX⟩
  clear kc hz9 hXX
  refine ⟨_, rfl, fun X => RowAt lb 64 (lfV dAB) X ∧ RowAt vb 1 (lvV 2 Bs) X ∧ RowAt rb 32 (yv RT) X, fun X hX => hX, ⟨S.out.1, S.out.2.1, S.out.2.2.1⟩, ?_⟩
  simp only [List.getElem_toArray, List.getElem_cons_zero, List.getElem_cons_succ, Act.put, List.setIfInBounds_toArray, List.set_cons_zero, List.set_cons_succ]
  refine wpX_f _ (.int .i64 0) rfl rfl (fun X _ => by simp [go_sem]) ?_
  simp only [List.getElem_toArray, List.getElem_cons_zero, List.getElem_cons_succ, Act.put, List.setIfInBounds_toArray, List.set_cons_zero, List.set_cons_succ]
  refine wpX_nil ?_
  go_upto_region 6 with (fail)
  replace S : Hid (RowAt lb 64 (lfV dAB) w8.drew ∧ RowAt vb 1 (lvV 2 Bs) w8.drew ∧ RowAt rb 32 (yv RT) w8.drew ∧ LevAt (Bs 0) 1 (nodeB 2 dAB 0) w8.drew ∧ TabC w8.drew ∧ Ext w w8.drew) := by
    have hXX : Ext w8 w8.drew := (Ext.refl w8).draw
    exact ⟨S.out.1.carry hXX, S.out.2.1.carry hXX, S.out.2.2.1.carry hXX, S.out.2.2.2.1.carry hXX, S.out.2.2.2.2.1.ext hXX, Ext.trans S.out.2.2.2.2.2 hXX⟩
  refine wp_region_lad (fun X => RowAt lb 64 (lfV dAB) X ∧ RowAt vb 1 (lvV 2 Bs) X ∧ RowAt rb 32 (yv RT) X) [(false, 0), (false, 1), (false, 2), (false, 3), (false, 4), (false, 5), (false, 6), (true, 7), (false, 8)] (by kernel_rfl) (by kernel_rfl) (by decide +kernel) (by decide +kernel) (by decide +kernel) (by decide +kernel) ⟨S.out.1, S.out.2.1, S.out.2.2.1⟩ ?_
  refine wpX_f _ (.slice (some ⟨lb, 0, none⟩) 2 2) rfl rfl (fun X _ => by simp [go_sem]) ?_
  simp only [List.getElem_toArray, List.getElem_cons_zero, Act.put, List.setIfInBounds_toArray, List.set_cons_zero, List.set_cons_succ]
  refine wpX_f _ (.pointer (some ⟨lb, 32, none⟩)) rfl rfl (fun X _ => by simp [go_sem]) ?_
  simp only [List.getElem_toArray, List.getElem_cons_zero, List.getElem_cons_succ, Act.put, List.setIfInBounds_toArray, List.set_cons_zero, List.set_cons_succ]
  refine wpX_f _ (.agg (row 32 (yv (dAB 1))).toArray) rfl rfl (fun X hX => exec_loadR 25 (.tmp 44) rfl lb 32 32 _ rfl (leaf_range (n := 2) hX.1 1 (by decide)) Tryd.underlying25 rfl info24) ?_
  simp only [List.getElem_toArray, List.getElem_cons_zero, List.getElem_cons_succ, Act.put, List.setIfInBounds_toArray, List.set_cons_zero, List.set_cons_succ]
  refine wpX_f _ (.slice (some ⟨vb, 0, none⟩) 1 vcap) rfl rfl (fun X _ => by simp [go_sem]) ?_
  simp only [List.getElem_toArray, List.getElem_cons_zero, List.getElem_cons_succ, Act.put, List.setIfInBounds_toArray, List.set_cons_zero, List.set_cons_succ]
  refine wpX_f _ (.pointer (some ⟨vb, 0, none⟩)) rfl rfl (fun X _ => by simp [go_sem]) ?_
  simp only [List.getElem_toArray, List.getElem_cons_zero, List.getElem_cons_succ, Act.put, List.setIfInBounds_toArray, List.set_cons_zero, List.set_cons_succ]
  refine wpX_f _ (.slice (some ⟨Bs 0, 0, none⟩) 1 1) rfl rfl (fun X hX => by have e := hX.2.1.1 0 (by decide); rw [lv0] at e; simp [go_sem, e]) ?_
  simp only [List.getElem_toArray, List.getElem_cons_zero, List.getElem_cons_succ, Act.put, List.setIfInBounds_toArray, List.set_cons_zero, List.set_cons_succ]
  refine wpX_f _ (.agg (row 32 (yv RT)).toArray) rfl rfl (fun X hX => exec_loadR 25 (.tmp 3) rfl rb 0 32 _ rfl hX.2.2.range Tryd.underlying25 rfl info24) ?_
  simp only [List.getElem_toArray, List.getElem_cons_zero, List.getElem_cons_succ, Act.put, List.setIfInBounds_toArray, List.set_cons_zero, List.set_cons_succ]
  have kc := check_go 2 0 1 (by decide) (by decide) (by decide) (dAB 1) RT _ (ndV (Bs 0)) (fun _ => 512) (nodeB 2 dAB 0) w8.drew (S.out.2.2.2.1.parts) (S.out.2.2.2.2.1) rfl (fun _ _ => rfl)
  refine wpX_call _ rfl rfl (by simp [go_sem]) (kc.mono ?_)
  rintro e w9 ⟨z, rfl, hXX, hz9⟩
  obtain rfl : z = 160 := by
    rcases hz9 with ⟨h, h'⟩ | ⟨h, h'⟩
    · exact absurd h' (by rw [hRT.out]; exact no0)
    · exact h
  replace S : Hid (RowAt lb 64 (lfV dAB) w9 ∧ RowAt vb 1 (lvV 2 Bs) w9 ∧ RowAt rb 32 (yv RT) w9 ∧ LevAt (Bs 0) 1 (nodeB 2 dAB 0) w9 ∧ TabC w9 ∧ Ext w w9) := ⟨S.out.1.carry hXX, S.out.2.1.carry hXX, S.out.2.2.1.carry hXX, S.out.2.2.2.1.carry hXX, S.out.2.2.2.2.1.ext hXX, Ext.trans S.out.2.2.2.2.2 hXX⟩
  clear kc hz9 hXX
  refine ⟨_, rfl, fun X => RowAt lb 64 (lfV dAB) X ∧ RowAt vb 1 (lvV 2 Bs) X ∧ RowAt rb 32 (yv RT) X, fun X hX => hX, ⟨S.out.1, S.out.2.1, S.out.2.2.1⟩, ?_⟩
  simp only [List.getElem_toArray, List.getElem_cons_zero, List.getElem_cons_succ, Act.put, List.setIfInBounds_toArray, List.set_cons_zero, List.set_cons_succ]
  refine wpX_f _ (.int .i64 160) rfl rfl (fun X _ => by simp [go_sem]) ?_
  simp only [List.getElem_toArray, List.getElem_cons_zero, List.getElem_cons_succ, Act.put, List.setIfInBounds_toArray, List.set_cons_zero, List.set_cons_succ]
  refine wpX_nil ?_
  have kl := hideit (levels_any 17 w9 (by decide) (by decide))
  rw [lv17] at kl
  go_upto_region 7 with (fail)
  refine wp_region_lit ?_
  refine wpList_call rfl (by simp [go_sem]) ((kl.out).mono ?_)
  rintro e w10 ⟨vl, rfl, hO, hX10⟩
  refine ⟨_, rfl, ?_⟩
  simp only [Act.put, List.setIfInBounds_toArray, List.set_cons_zero, List.set_cons_succ]
  obtain ⟨xb, xcap, rfl, -, -, -, hx10⟩ := hO.lies (by decide)
  have L10 := hideit (S.out.1.carry hX10)
  have E10 := hideit (Ext.trans S.out.2.2.2.2.2 hX10)
  replace hx10 := hideit hx10
  clear S kl hO hX10
  go_upto_region 8 with (fail)
  refine wp_region_lad (fun X => RowAt lb 64 (lfV dAB) X ∧ RowAt xb 2 (lcV 17) X) [(false, 0), (false, 1), (false, 2), (false, 3), (false, 4), (false, 5), (false, 6), (false, 7), (false, 8), (false, 9), (false, 10), (false, 11), (false, 12), (false, 13), (false, 14), (false, 15), (false, 16), (false, 17), (false, 18), (false, 19), (false, 20), (false, 21), (false, 22), (false, 23), (false, 24), (false, 25), (false, 26)] (by kernel_rfl) (by kernel_rfl) (by decide +kernel) (by decide +kernel) (by decide +kernel) (by decide +kernel) ⟨L10.out.drew, hx10.out.drew⟩ ?_
  refine wpX_f _ (.int .i64 0) rfl rfl (fun X _ => by simp [go_sem]) ?_
  simp only [List.getElem_toArray, List.getElem_cons_zero, Act.put, List.setIfInBounds_toArray, List.set_cons_zero, List.set_cons_succ]
  refine wpX_f _ (.bool true) rfl rfl (fun X _ => by simp [go_sem]) ?_
  simp only [List.getElem_toArray, List.getElem_cons_zero, List.getElem_cons_succ, Act.put, List.setIfInBounds_toArray, List.set_cons_zero, List.set_cons_succ]
  refine wpX_f _ (.bool true) rfl rfl (fun X _ => by simp [go_sem]) ?_
  simp only [List.getElem_toArray, List.getElem_cons_zero, List.getElem_cons_succ, Act.put, List.setIfInBounds_toArray, List.set_cons_zero, List.set_cons_succ]
  refine wpX_f _ (.int .i64 160) rfl rfl (fun X _ => by simp [go_sem]) ?_
  simp only [List.getElem_toArray, List.getElem_cons_zero, List.getElem_cons_succ, Act.put, List.setIfInBounds_toArray, List.set_cons_zero, List.set_cons_succ]
  refine wpX_f _ (.bool true) rfl rfl (fun X _ => by simp [go_sem]) ?_
  simp only [List.getElem_toArray, List.getElem_cons_zero, List.getElem_cons_succ, Act.put, List.setIfInBounds_toArray, List.set_cons_zero, List.set_cons_succ]
  refine wpX_f _ (.bool true) rfl rfl (fun X _ => by simp [go_sem]) ?_
  simp only [List.getElem_toArray, List.getElem_cons_zero, List.getElem_cons_succ, Act.put, List.setIfInBounds_toArray, List.set_cons_zero, List.set_cons_succ]
  refine wpX_f _ (.bool true) rfl rfl (fun X _ => by simp [go_sem]) ?_
  simp only [List.getElem_toArray, List.getElem_cons_zero, List.getElem_cons_succ, Act.put, List.setIfInBounds_toArray, List.set_cons_zero, List.set_cons_succ]
  refine wpX_f _ (.slice (some ⟨xb, 0, none⟩) 2 xcap) rfl rfl (fun X _ => by simp [go_sem]) ?_
  simp only [List.getElem_toArray, List.getElem_cons_zero, List.getElem_cons_succ, Act.put, List.setIfInBounds_toArray, List.set_cons_zero, List.set_cons_succ]
  refine wpX_f _ (.int .i64 2) rfl rfl (fun X _ => by simp [go_sem]) ?_
  simp only [List.getElem_toArray, List.getElem_cons_zero, List.getElem_cons_succ, Act.put, List.setIfInBounds_toArray, List.set_cons_zero, List.set_cons_succ]
  refine wpX_f _ (.bool true) rfl rfl (fun X _ => by simp [go_sem]) ?_
  simp only [List.getElem_toArray, List.getElem_cons_zero, List.getElem_cons_succ, Act.put, List.setIfInBounds_toArray, List.set_cons_zero, List.set_cons_succ]
  refine wpX_f _ (.bool true) rfl rfl (fun X _ => by simp [go_sem]) ?_
  simp only [List.getElem_toArray, List.getElem_cons_zero, List.getElem_cons_succ, Act.put, List.setIfInBounds_toArray, List.set_cons_zero, List.set_cons_succ]
  refine wpX_f _ (.bool true) rfl rfl (fun X _ => by simp [go_sem]) ?_
  simp only [List.getElem_toArray, List.getElem_cons_zero, List.getElem_cons_succ, Act.put, List.setIfInBounds_toArray, List.set_cons_zero, List.set_cons_succ]
  refine wpX_f _ (.slice (some ⟨xb, 0, none⟩) 2 xcap) rfl rfl (fun X _ => by simp [go_sem]) ?_
  simp only [List.getElem_toArray, List.getElem_cons_zero, List.getElem_cons_succ, Act.put, List.setIfInBounds_toArray, List.set_cons_zero, List.set_cons_succ]
  refine wpX_f _ (.pointer (some ⟨xb, 0, none⟩)) rfl rfl (fun X _ => by simp [go_sem]) ?_
  simp only [List.getElem_toArray, List.getElem_cons_zero, List.getElem_cons_succ, Act.put, List.setIfInBounds_toArray, List.set_cons_zero, List.set_cons_succ]
  refine wpX_f _ (.int .i64 2) rfl rfl (fun X hX => by have e := hX.2.1 0 (by decide); rw [show lcV 17 0 = .int .i64 2 from rfl] at e; simp [go_sem, e]) ?_
  simp only [List.getElem_toArray, List.getElem_cons_zero, List.getElem_cons_succ, Act.put, List.setIfInBounds_toArray, List.set_cons_zero, List.set_cons_succ]
  refine wpX_f _ (.bool true) rfl rfl (fun X _ => by simp [go_sem]) ?_
  simp only [List.getElem_toArray, List.getElem_cons_zero, List.getElem_cons_succ, Act.put, List.setIfInBounds_toArray, List.set_cons_zero, List.set_cons_succ]
  refine wpX_f _ (.bool true) rfl rfl (fun X _ => by simp [go_sem]) ?_
  simp only [List.getElem_toArray, List.getElem_cons_zero, List.getElem_cons_succ, Act.put, List.setIfInBounds_toArray, List.set_cons_zero, List.set_cons_succ]
  refine wpX_f _ (.bool true) rfl rfl (fun X _ => by simp [go_sem]) ?_
  simp only [List.getElem_toArray, List.getElem_cons_zero, List.getElem_cons_succ, Act.put, List.setIfInBounds_toArray, List.set_cons_zero, List.set_cons_succ]
  refine wpX_f _ (.slice (some ⟨lb, 0, none⟩) 2 2) rfl rfl (fun X _ => by simp [go_sem]) ?_
  simp only [List.getElem_toArray, List.getElem_cons_zero, List.getElem_cons_succ, Act.put, List.setIfInBounds_toArray, List.set_cons_zero, List.set_cons_succ]
  refine wpX_f _ (.pointer (some ⟨lb, 0, none⟩)) rfl rfl (fun X _ => by simp [go_sem]) ?_
  simp only [List.getElem_toArray, List.getElem_cons_zero, List.getElem_cons_succ, Act.put, List.setIfInBounds_toArray, List.set_cons_zero, List.set_cons_succ]
  refine wpX_f _ (.agg (row 32 (yv (dAB 0))).toArray) rfl rfl (fun X hX => exec_loadR 25 (.tmp 71) rfl lb 0 32 _ rfl (leaf_range (n := 2) hX.1 0 (by decide)) Tryd.underlying25 rfl info24) ?_
  simp only [List.getElem_toArray, List.getElem_cons_zero, List.getElem_cons_succ, Act.put, List.setIfInBounds_toArray, List.set_cons_zero, List.set_cons_succ]
  refine wpX_f _ (.slice (some ⟨lb, 0, none⟩) 2 2) rfl rfl (fun X _ => by simp [go_sem]) ?_
  simp only [List.getElem_toArray, List.getElem_cons_zero, List.getElem_cons_succ, Act.put, List.setIfInBounds_toArray, List.set_cons_zero, List.set_cons_succ]
  refine wpX_f _ (.pointer (some ⟨lb, 32, none⟩)) rfl rfl (fun X _ => by simp [go_sem]) ?_
  simp only [List.getElem_toArray, List.getElem_cons_zero, List.getElem_cons_succ, Act.put, List.setIfInBounds_toArray, List.set_cons_zero, List.set_cons_succ]
  refine wpX_f _ (.agg (row 32 (yv (dAB 1))).toArray) rfl rfl (fun X hX => exec_loadR 25 (.tmp 74) rfl lb 32 32 _ rfl (leaf_range (n := 2) hX.1 1 (by decide)) Tryd.underlying25 rfl info24) ?_
  simp only [List.getElem_toArray, List.getElem_cons_zero, List.getElem_cons_succ, Act.put, List.setIfInBounds_toArray, List.set_cons_zero, List.set_cons_succ]
  refine wpX_f _ (.bool true) rfl rfl (fun X hX => exec_cmp .neq 25 25 (.tmp 72) (.tmp 75) rfl _ _ rfl rfl (by kernel_rfl) true ((neq25 _ _ X).trans (by rw [neAB]; rfl))) ?_
  simp only [List.getElem_toArray, List.getElem_cons_zero, List.getElem_cons_succ, Act.put, List.setIfInBounds_toArray, List.set_cons_zero, List.set_cons_succ]
  refine wpX_f _ (.bool true) rfl rfl (fun X _ => by simp [go_sem]) ?_
  simp only [List.getElem_toArray, List.getElem_cons_zero, List.getElem_cons_succ, Act.put, List.setIfInBounds_toArray, List.set_cons_zero, List.set_cons_succ]
  refine wpX_f _ (.bool true) rfl rfl (fun X _ => by simp [go_sem]) ?_
  simp only [List.getElem_toArray, List.getElem_cons_zero, List.getElem_cons_succ, Act.put, List.setIfInBounds_toArray, List.set_cons_zero]
  refine wpX_nil ?_
  go_wp2
  go_ret
  exact ⟨rfl, Ext.trans E10.out (Ext.refl _).draw⟩
end Go.Proofs.YtapmheocllicnaaDoor
