/-
  DERIVED. GIVEN WITH THE SEED: THE CARDS: each row of YtdnidpojcocklaaDoorRows.lean that lists a variable, with what it lists TIED to the program's text (the seventh form; the later family's looks); each row that meets fmt, with fmt's text TOLD by the authors' own Lean function (tested against real Go, not proved from fmt's source: count such statements apart). THE CARD IS WHAT COUNTS. Prove the row's statement (the work); the ties are given (YtdnidpojcocklaaDoorTie.lean); close each card by the builder's one call (the guide's Derived/Test/ToyasCard.lean, 'card_holds'). Laid BY PROGRAM, IN A SANDBOX (cutbox-door.mjs). By AI agents, Wed Nov 11 2026. No macro, syntax, notation, axiom, sorry.
-/
import Derived.Test.YtdnidpojcocklaaDoorRows
import GoSem.ClaimSeven
namespace Go.Proofs.YtdnidpojcocklaaDoor
namespace Rows

/-- THE TIED CARD OF 'planchetlaw04.LearnLeft'. -/
def learnLeftCard : Claim7 := { stood := { row := learnLeftRow, standIns := [], harness := (true, "2b997f18946a999e9ac35b406956340bea0dbde0b398d56f043a4f5f9f6ed632"), looks := false }, kinds := [], alts := [], laidByText := true, laidKinds := [.data, .data], laidTests := true, laidLooks := .later }
def LearnLeftCardSaid : Prop := Claim7.holds Tryd.pinned (.plain (OpenSpec.ofChange learnLeftSpec)) learnLeftCard

/-- THE TIED CARD OF 'planchetlaw04.LearnDims'. -/
def learnDimsCard : Claim7 := { stood := { row := learnDimsRow, standIns := [], harness := (true, "2b997f18946a999e9ac35b406956340bea0dbde0b398d56f043a4f5f9f6ed632"), looks := false }, kinds := [], alts := [], laidByText := true, laidKinds := [.data], laidTests := true, laidLooks := .later }
def LearnDimsCardSaid : Prop := Claim7.holds Tryd.pinned (.plain (OpenSpec.ofChange learnDimsSpec)) learnDimsCard

/-- THE TIED CARD OF 'planchetlaw04.LearnSays'. -/
def learnSaysCard : Claim7 := { stood := { row := learnSaysRow, standIns := [], harness := (true, "2b997f18946a999e9ac35b406956340bea0dbde0b398d56f043a4f5f9f6ed632"), looks := false }, kinds := [], alts := [], laidByText := true, laidKinds := [.data], laidTests := true, laidLooks := .later }
def LearnSaysCardSaid : Prop := Claim7.holds Tryd.pinned (.plain (OpenSpec.ofChange learnSaysSpec)) learnSaysCard

/-- THE TIED CARD OF 'planchetlaw04.LearnWorst'. -/
def learnWorstCard : Claim7 := { stood := { row := learnWorstRow, standIns := [], harness := (true, "2b997f18946a999e9ac35b406956340bea0dbde0b398d56f043a4f5f9f6ed632"), looks := false }, kinds := [], alts := [], laidByText := true, laidKinds := [.data], laidTests := true, laidLooks := .later }
def LearnWorstCardSaid : Prop := Claim7.holds Tryd.pinned (.plain (OpenSpec.ofChange learnWorstSpec)) learnWorstCard

/-- THE TIED CARD OF 'planchetlaw04.LearnKeys'. -/
def learnKeysCard : Claim7 := { stood := { row := learnKeysRow, standIns := [], harness := (true, "2b997f18946a999e9ac35b406956340bea0dbde0b398d56f043a4f5f9f6ed632"), looks := false }, kinds := [], alts := [], laidByText := true, laidKinds := [.data], laidTests := true, laidLooks := .later }
def LearnKeysCardSaid : Prop := Claim7.holds Tryd.pinned (.plain (OpenSpec.ofChange learnKeysSpec)) learnKeysCard

/-- THE TIED CARD OF 'planchetlaw04.LearnAsks'. -/
def learnAsksCard : Claim7 := { stood := { row := learnAsksRow, standIns := [], harness := (true, "2b997f18946a999e9ac35b406956340bea0dbde0b398d56f043a4f5f9f6ed632"), looks := false }, kinds := [], alts := [], laidByText := true, laidKinds := [.data, .data], laidTests := true, laidLooks := .later }
def LearnAsksCardSaid : Prop := Claim7.holds Tryd.pinned (.plain (OpenSpec.ofChange learnAsksSpec)) learnAsksCard

/-- THE TIED CARD OF 'planchetlaw04.LearnTurns'. -/
def learnTurnsCard : Claim7 := { stood := { row := learnTurnsRow, standIns := [], harness := (true, "2b997f18946a999e9ac35b406956340bea0dbde0b398d56f043a4f5f9f6ed632"), looks := false }, kinds := [], alts := [], laidByText := true, laidKinds := [.data], laidTests := true, laidLooks := .later }
def LearnTurnsCardSaid : Prop := Claim7.holds Tryd.pinned (.plain (OpenSpec.ofChange learnTurnsSpec)) learnTurnsCard

/-- THE TIED CARD OF 'planchetlaw04.LearnMistakes'. -/
def learnMistakesCard : Claim7 := { stood := { row := learnMistakesRow, standIns := [], harness := (true, "2b997f18946a999e9ac35b406956340bea0dbde0b398d56f043a4f5f9f6ed632"), looks := false }, kinds := [], alts := [], laidByText := true, laidKinds := [.data], laidTests := true, laidLooks := .later }
def LearnMistakesCardSaid : Prop := Claim7.holds Tryd.pinned (.plain (OpenSpec.ofChange learnMistakesSpec)) learnMistakesCard

/-- THE TIED CARD OF 'planchetlaw04.LearnFools'. -/
def learnFoolsCard : Claim7 := { stood := { row := learnFoolsRow, standIns := [], harness := (true, "2b997f18946a999e9ac35b406956340bea0dbde0b398d56f043a4f5f9f6ed632"), looks := false }, kinds := [], alts := [], laidByText := true, laidKinds := [.data, .data], laidTests := true, laidLooks := .later }
def LearnFoolsCardSaid : Prop := Claim7.holds Tryd.pinned (.plain (OpenSpec.ofChange learnFoolsSpec)) learnFoolsCard

/-- THE TIED CARD OF 'planchetlaw04.LearnParts'. -/
def learnPartsCard : Claim7 := { stood := { row := learnPartsRow, standIns := [], harness := (true, "2b997f18946a999e9ac35b406956340bea0dbde0b398d56f043a4f5f9f6ed632"), looks := false }, kinds := [], alts := [], laidByText := true, laidKinds := [.data, .data], laidTests := true, laidLooks := .later }
def LearnPartsCardSaid : Prop := Claim7.holds Tryd.pinned (.plain (OpenSpec.ofChange learnPartsSpec)) learnPartsCard

/-- THE TIED CARD OF 'planchetlaw04.LearnTeaches'. -/
def learnTeachesCard : Claim7 := { stood := { row := learnTeachesRow, standIns := [], harness := (true, "2b997f18946a999e9ac35b406956340bea0dbde0b398d56f043a4f5f9f6ed632"), looks := false }, kinds := [], alts := [], laidByText := true, laidKinds := [.data, .data], laidTests := true, laidLooks := .later }
def LearnTeachesCardSaid : Prop := Claim7.holds Tryd.pinned (.plain (OpenSpec.ofChange learnTeachesSpec)) learnTeachesCard

/-- THE TIED CARD OF 'planchetlaw04.LearnTurned'. -/
def learnTurnedCard : Claim7 := { stood := { row := learnTurnedRow, standIns := [], harness := (true, "2b997f18946a999e9ac35b406956340bea0dbde0b398d56f043a4f5f9f6ed632"), looks := false }, kinds := [], alts := [], laidByText := true, laidKinds := [.data, .data], laidTests := true, laidLooks := .later }
def LearnTurnedCardSaid : Prop := Claim7.holds Tryd.pinned (.plain (OpenSpec.ofChange learnTurnedSpec)) learnTurnedCard

/-- THE TIED CARD OF 'planchetlaw04.LearnAll'. -/
def learnAllCard : Claim7 := { stood := { row := learnAllRow, standIns := [], harness := (true, "2b997f18946a999e9ac35b406956340bea0dbde0b398d56f043a4f5f9f6ed632"), looks := false }, kinds := [], alts := [], laidByText := true, laidKinds := [.data, .data], laidTests := true, laidLooks := .later }
def LearnAllCardSaid : Prop := Claim7.holds Tryd.pinned (.plain (OpenSpec.ofChange learnAllSpec)) learnAllCard

/-- THE SECOND FORM's CARD OF 'planchetlaw04.LearnLeft'. -/
def learnLeftUptoCard : Claim7 := { stood := { row := learnLeftUptoRow, standIns := [], harness := (true, "2b997f18946a999e9ac35b406956340bea0dbde0b398d56f043a4f5f9f6ed632"), looks := false }, kinds := [], alts := [], laidByText := true, laidKinds := [.data, .data], laidTests := true, laidLooks := .later }
def LearnLeftUptoCardSaid : Prop := Claim7.holds Tryd.pinned (.plain (OpenSpec.upto learnLeftSpec)) learnLeftUptoCard

/-- THE SECOND FORM's CARD OF 'planchetlaw04.LearnDims'. -/
def learnDimsUptoCard : Claim7 := { stood := { row := learnDimsUptoRow, standIns := [], harness := (true, "2b997f18946a999e9ac35b406956340bea0dbde0b398d56f043a4f5f9f6ed632"), looks := false }, kinds := [], alts := [], laidByText := true, laidKinds := [.data], laidTests := true, laidLooks := .later }
def LearnDimsUptoCardSaid : Prop := Claim7.holds Tryd.pinned (.plain (OpenSpec.upto learnDimsSpec)) learnDimsUptoCard

/-- THE SECOND FORM's CARD OF 'planchetlaw04.LearnSays'. -/
def learnSaysUptoCard : Claim7 := { stood := { row := learnSaysUptoRow, standIns := [], harness := (true, "2b997f18946a999e9ac35b406956340bea0dbde0b398d56f043a4f5f9f6ed632"), looks := false }, kinds := [], alts := [], laidByText := true, laidKinds := [.data], laidTests := true, laidLooks := .later }
def LearnSaysUptoCardSaid : Prop := Claim7.holds Tryd.pinned (.plain (OpenSpec.upto learnSaysSpec)) learnSaysUptoCard

/-- THE SECOND FORM's CARD OF 'planchetlaw04.LearnWorst'. -/
def learnWorstUptoCard : Claim7 := { stood := { row := learnWorstUptoRow, standIns := [], harness := (true, "2b997f18946a999e9ac35b406956340bea0dbde0b398d56f043a4f5f9f6ed632"), looks := false }, kinds := [], alts := [], laidByText := true, laidKinds := [.data], laidTests := true, laidLooks := .later }
def LearnWorstUptoCardSaid : Prop := Claim7.holds Tryd.pinned (.plain (OpenSpec.upto learnWorstSpec)) learnWorstUptoCard

/-- THE SECOND FORM's CARD OF 'planchetlaw04.LearnKeys'. -/
def learnKeysUptoCard : Claim7 := { stood := { row := learnKeysUptoRow, standIns := [], harness := (true, "2b997f18946a999e9ac35b406956340bea0dbde0b398d56f043a4f5f9f6ed632"), looks := false }, kinds := [], alts := [], laidByText := true, laidKinds := [.data], laidTests := true, laidLooks := .later }
def LearnKeysUptoCardSaid : Prop := Claim7.holds Tryd.pinned (.plain (OpenSpec.upto learnKeysSpec)) learnKeysUptoCard

/-- THE SECOND FORM's CARD OF 'planchetlaw04.LearnAsks'. -/
def learnAsksUptoCard : Claim7 := { stood := { row := learnAsksUptoRow, standIns := [], harness := (true, "2b997f18946a999e9ac35b406956340bea0dbde0b398d56f043a4f5f9f6ed632"), looks := false }, kinds := [], alts := [], laidByText := true, laidKinds := [.data, .data], laidTests := true, laidLooks := .later }
def LearnAsksUptoCardSaid : Prop := Claim7.holds Tryd.pinned (.plain (OpenSpec.upto learnAsksSpec)) learnAsksUptoCard

/-- THE SECOND FORM's CARD OF 'planchetlaw04.LearnTurns'. -/
def learnTurnsUptoCard : Claim7 := { stood := { row := learnTurnsUptoRow, standIns := [], harness := (true, "2b997f18946a999e9ac35b406956340bea0dbde0b398d56f043a4f5f9f6ed632"), looks := false }, kinds := [], alts := [], laidByText := true, laidKinds := [.data], laidTests := true, laidLooks := .later }
def LearnTurnsUptoCardSaid : Prop := Claim7.holds Tryd.pinned (.plain (OpenSpec.upto learnTurnsSpec)) learnTurnsUptoCard

/-- THE SECOND FORM's CARD OF 'planchetlaw04.LearnMistakes'. -/
def learnMistakesUptoCard : Claim7 := { stood := { row := learnMistakesUptoRow, standIns := [], harness := (true, "2b997f18946a999e9ac35b406956340bea0dbde0b398d56f043a4f5f9f6ed632"), looks := false }, kinds := [], alts := [], laidByText := true, laidKinds := [.data], laidTests := true, laidLooks := .later }
def LearnMistakesUptoCardSaid : Prop := Claim7.holds Tryd.pinned (.plain (OpenSpec.upto learnMistakesSpec)) learnMistakesUptoCard

/-- THE SECOND FORM's CARD OF 'planchetlaw04.LearnFools'. -/
def learnFoolsUptoCard : Claim7 := { stood := { row := learnFoolsUptoRow, standIns := [], harness := (true, "2b997f18946a999e9ac35b406956340bea0dbde0b398d56f043a4f5f9f6ed632"), looks := false }, kinds := [], alts := [], laidByText := true, laidKinds := [.data, .data], laidTests := true, laidLooks := .later }
def LearnFoolsUptoCardSaid : Prop := Claim7.holds Tryd.pinned (.plain (OpenSpec.upto learnFoolsSpec)) learnFoolsUptoCard

/-- THE SECOND FORM's CARD OF 'planchetlaw04.LearnParts'. -/
def learnPartsUptoCard : Claim7 := { stood := { row := learnPartsUptoRow, standIns := [], harness := (true, "2b997f18946a999e9ac35b406956340bea0dbde0b398d56f043a4f5f9f6ed632"), looks := false }, kinds := [], alts := [], laidByText := true, laidKinds := [.data, .data], laidTests := true, laidLooks := .later }
def LearnPartsUptoCardSaid : Prop := Claim7.holds Tryd.pinned (.plain (OpenSpec.upto learnPartsSpec)) learnPartsUptoCard

/-- THE SECOND FORM's CARD OF 'planchetlaw04.LearnTeaches'. -/
def learnTeachesUptoCard : Claim7 := { stood := { row := learnTeachesUptoRow, standIns := [], harness := (true, "2b997f18946a999e9ac35b406956340bea0dbde0b398d56f043a4f5f9f6ed632"), looks := false }, kinds := [], alts := [], laidByText := true, laidKinds := [.data, .data], laidTests := true, laidLooks := .later }
def LearnTeachesUptoCardSaid : Prop := Claim7.holds Tryd.pinned (.plain (OpenSpec.upto learnTeachesSpec)) learnTeachesUptoCard

/-- THE SECOND FORM's CARD OF 'planchetlaw04.LearnTurned'. -/
def learnTurnedUptoCard : Claim7 := { stood := { row := learnTurnedUptoRow, standIns := [], harness := (true, "2b997f18946a999e9ac35b406956340bea0dbde0b398d56f043a4f5f9f6ed632"), looks := false }, kinds := [], alts := [], laidByText := true, laidKinds := [.data, .data], laidTests := true, laidLooks := .later }
def LearnTurnedUptoCardSaid : Prop := Claim7.holds Tryd.pinned (.plain (OpenSpec.upto learnTurnedSpec)) learnTurnedUptoCard

/-- THE SECOND FORM's CARD OF 'planchetlaw04.LearnAll'. -/
def learnAllUptoCard : Claim7 := { stood := { row := learnAllUptoRow, standIns := [], harness := (true, "2b997f18946a999e9ac35b406956340bea0dbde0b398d56f043a4f5f9f6ed632"), looks := false }, kinds := [], alts := [], laidByText := true, laidKinds := [.data, .data], laidTests := true, laidLooks := .later }
def LearnAllUptoCardSaid : Prop := Claim7.holds Tryd.pinned (.plain (OpenSpec.upto learnAllSpec)) learnAllUptoCard
end Rows
end Go.Proofs.YtdnidpojcocklaaDoor
