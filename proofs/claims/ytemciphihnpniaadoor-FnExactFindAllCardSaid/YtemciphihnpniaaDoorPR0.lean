import Derived.Test.YtemciphihnpniaaDoorPKA
import Derived.Test.YtemciphihnpniaaDoorPKB
import Derived.Test.YtemciphihnpniaaDoorPKC
import Derived.Test.YtemciphihnpniaaDoorPKD
import Derived.Test.YtemciphihnpniaaDoorPQA
import Derived.Test.YtemciphihnpniaaDoorPQB
import Derived.Test.YtemciphihnpniaaDoorPQC
import Derived.Test.YtemciphihnpniaaDoorPQD
import Derived.Test.YtemciphihnpniaaDoorPQE
import Derived.Test.YtemciphihnpniaaDoorPQF
namespace Go.Proofs.YtemciphihnpniaaDoor
open Go Go.RowKit
set_option linter.unusedVariables false

/-- The document's reader of one item. -/
theorem item_any (R : Nat) (p : ByteArray) (rd : Rd) (us : List (It × Value)) (vi vo vd : Value) (w : World) (hp : p.size ≤ 200) (hpos : rd.pos < p.size) (hj : RdJ rd) (hu : us.length ≤ rd.pos ∧ rd.opn.length ≤ rd.pos ∧ rd.done.length ≤ rd.pos) (hit : us.map Prod.fst = rd.items) (h : QR w R p rd.pos us rd.opn rd.done vi vo vd) :
    Calls Tryd.prog 33 #[.pointer (some ⟨R, 0, none⟩)] w fun e w' => ItR R p rd.pos (rdItem p rd) w e w' := by
  by_cases h40 : hb p rd.pos = 40
  · by_cases h1 : rd.pos + 1 < p.size
    · by_cases h41 : hb p (rd.pos + 1) = 41
      · exact item_place R p rd us vi vo vd w hp hpos hj hu hit h h40 h1 h41
      · exact item_open1 R p rd us vi vo vd w hp hpos hj hu hit h h40 h1 h41
    · exact item_open0 R p rd us vi vo vd w hp hpos hj hu hit h h40 h1
  by_cases h41 : hb p rd.pos = 41
  · exact item_shut R p rd us vi vo vd w hp hpos hj hu hit h h41
  by_cases h37 : hb p rd.pos = 37
  · by_cases h1 : rd.pos + 1 < p.size
    · by_cases hdg : isDg (hb p (rd.pos + 1)) = true
      · exact item_dig R p rd us vi vo vd w hp hpos hj hu hit h h37 h1 hdg
      by_cases h98 : hb p (rd.pos + 1) = 98
      · exact item_bal R p rd us vi vo vd w hp hpos hj hu hit h h37 h1 h98
      by_cases h102 : hb p (rd.pos + 1) = 102
      · exact item_fro R p rd us vi vo vd w hp hpos hj hu hit h h37 h1 h102
      have hpc : ¬ (hb p rd.pos = 37 ∧ rd.pos + 1 < p.size ∧ (isDg (hb p (rd.pos + 1)) = true ∨ hb p (rd.pos + 1) = 98 ∨ hb p (rd.pos + 1) = 102)) := by
        rintro ⟨_, _, x | x | x⟩
        · exact hdg x
        · exact h98 x
        · exact h102 x
      by_cases hd : hb p (rd.pos + 1) < 48
      · exact item_oneC R p rd us vi vo vd w hp hpos hj hu hit h h40 h41 hpc (by omega) h1 h37 hd
      · exact item_oneD R p rd us vi vo vd w hp hpos hj hu hit h h40 h41 hpc (by omega) h1 h37 (by
          rcases Int.lt_or_le 57 (hb p (rd.pos + 1)) with c | c
          · exact c
          · exact absurd (by simp [isDg]; omega) hdg)
    · exact item_oneF R p rd us vi vo vd w hp hpos hj hu hit h h40 h41 (by omega) (by omega) h1 h37
  by_cases h1 : rd.pos + 1 < p.size
  · by_cases h36 : hb p rd.pos = 36
    · exact item_oneB R p rd us vi vo vd w hp hpos hj hu hit h h40 h41 (by omega) (by omega) h1 h36
    · exact item_oneA R p rd us vi vo vd w hp hpos hj hu hit h h40 h41 (by omega) (by omega) h1 h37 h36
  · by_cases h36 : hb p rd.pos = 36
    · exact item_end R p rd us vi vo vd w hp hpos hj hu hit h h36 h1
    · exact item_oneE R p rd us vi vo vd w hp hpos hj hu hit h h40 h41 (by omega) (by omega) h1 h37

end Go.Proofs.YtemciphihnpniaaDoor
