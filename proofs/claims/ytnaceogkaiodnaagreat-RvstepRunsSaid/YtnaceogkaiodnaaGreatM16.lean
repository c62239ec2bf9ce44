/- The document's own way of layer 3: its table, which row an operation has, which registers and immediates may be. Contracts; no condition. -/
import Derived.Test.YtnaceogkaiodnaaGreatM14
import Derived.Test.YtnaceogkaiodnaaGreatM5
import Derived.Test.YtnaceogkaiodnaaGreatM4
namespace Go.Proofs.YtnaceogkaiodnaaGreat
open Go.RowKit
set_option linter.unusedVariables false
set_option linter.unusedSimpArgs false

def rowsR : Array Value := #[(.string ⟨#[108, 117, 105]⟩), (.string ⟨#[85]⟩), .int .u32 55, .int .u32 0, .int .u32 0,
  (.string ⟨#[97, 117, 105, 112, 99]⟩), (.string ⟨#[85]⟩), .int .u32 23, .int .u32 0, .int .u32 0,
  (.string ⟨#[106, 97, 108]⟩), (.string ⟨#[74]⟩), .int .u32 111, .int .u32 0, .int .u32 0,
  (.string ⟨#[106, 97, 108, 114]⟩), (.string ⟨#[73]⟩), .int .u32 103, .int .u32 0, .int .u32 0,
  (.string ⟨#[98, 101, 113]⟩), (.string ⟨#[66]⟩), .int .u32 99, .int .u32 0, .int .u32 0,
  (.string ⟨#[98, 110, 101]⟩), (.string ⟨#[66]⟩), .int .u32 99, .int .u32 1, .int .u32 0,
  (.string ⟨#[98, 108, 116]⟩), (.string ⟨#[66]⟩), .int .u32 99, .int .u32 4, .int .u32 0,
  (.string ⟨#[98, 103, 101]⟩), (.string ⟨#[66]⟩), .int .u32 99, .int .u32 5, .int .u32 0,
  (.string ⟨#[98, 108, 116, 117]⟩), (.string ⟨#[66]⟩), .int .u32 99, .int .u32 6, .int .u32 0,
  (.string ⟨#[98, 103, 101, 117]⟩), (.string ⟨#[66]⟩), .int .u32 99, .int .u32 7, .int .u32 0,
  (.string ⟨#[108, 98]⟩), (.string ⟨#[73]⟩), .int .u32 3, .int .u32 0, .int .u32 0,
  (.string ⟨#[108, 104]⟩), (.string ⟨#[73]⟩), .int .u32 3, .int .u32 1, .int .u32 0,
  (.string ⟨#[108, 119]⟩), (.string ⟨#[73]⟩), .int .u32 3, .int .u32 2, .int .u32 0,
  (.string ⟨#[108, 100]⟩), (.string ⟨#[73]⟩), .int .u32 3, .int .u32 3, .int .u32 0,
  (.string ⟨#[108, 98, 117]⟩), (.string ⟨#[73]⟩), .int .u32 3, .int .u32 4, .int .u32 0,
  (.string ⟨#[108, 104, 117]⟩), (.string ⟨#[73]⟩), .int .u32 3, .int .u32 5, .int .u32 0,
  (.string ⟨#[108, 119, 117]⟩), (.string ⟨#[73]⟩), .int .u32 3, .int .u32 6, .int .u32 0,
  (.string ⟨#[115, 98]⟩), (.string ⟨#[83]⟩), .int .u32 35, .int .u32 0, .int .u32 0,
  (.string ⟨#[115, 104]⟩), (.string ⟨#[83]⟩), .int .u32 35, .int .u32 1, .int .u32 0,
  (.string ⟨#[115, 119]⟩), (.string ⟨#[83]⟩), .int .u32 35, .int .u32 2, .int .u32 0,
  (.string ⟨#[115, 100]⟩), (.string ⟨#[83]⟩), .int .u32 35, .int .u32 3, .int .u32 0,
  (.string ⟨#[97, 100, 100, 105]⟩), (.string ⟨#[73]⟩), .int .u32 19, .int .u32 0, .int .u32 0,
  (.string ⟨#[115, 108, 116, 105]⟩), (.string ⟨#[73]⟩), .int .u32 19, .int .u32 2, .int .u32 0,
  (.string ⟨#[115, 108, 116, 105, 117]⟩), (.string ⟨#[73]⟩), .int .u32 19, .int .u32 3, .int .u32 0,
  (.string ⟨#[120, 111, 114, 105]⟩), (.string ⟨#[73]⟩), .int .u32 19, .int .u32 4, .int .u32 0,
  (.string ⟨#[111, 114, 105]⟩), (.string ⟨#[73]⟩), .int .u32 19, .int .u32 6, .int .u32 0,
  (.string ⟨#[97, 110, 100, 105]⟩), (.string ⟨#[73]⟩), .int .u32 19, .int .u32 7, .int .u32 0,
  (.string ⟨#[115, 108, 108, 105]⟩), (.string ⟨#[88]⟩), .int .u32 19, .int .u32 1, .int .u32 0,
  (.string ⟨#[115, 114, 108, 105]⟩), (.string ⟨#[88]⟩), .int .u32 19, .int .u32 5, .int .u32 0,
  (.string ⟨#[115, 114, 97, 105]⟩), (.string ⟨#[88]⟩), .int .u32 19, .int .u32 5, .int .u32 16,
  (.string ⟨#[97, 100, 100, 105, 119]⟩), (.string ⟨#[73]⟩), .int .u32 27, .int .u32 0, .int .u32 0,
  (.string ⟨#[115, 108, 108, 105, 119]⟩), (.string ⟨#[89]⟩), .int .u32 27, .int .u32 1, .int .u32 0,
  (.string ⟨#[115, 114, 108, 105, 119]⟩), (.string ⟨#[89]⟩), .int .u32 27, .int .u32 5, .int .u32 0,
  (.string ⟨#[115, 114, 97, 105, 119]⟩), (.string ⟨#[89]⟩), .int .u32 27, .int .u32 5, .int .u32 32,
  (.string ⟨#[97, 100, 100]⟩), (.string ⟨#[82]⟩), .int .u32 51, .int .u32 0, .int .u32 0,
  (.string ⟨#[115, 117, 98]⟩), (.string ⟨#[82]⟩), .int .u32 51, .int .u32 0, .int .u32 32,
  (.string ⟨#[115, 108, 108]⟩), (.string ⟨#[82]⟩), .int .u32 51, .int .u32 1, .int .u32 0,
  (.string ⟨#[115, 108, 116]⟩), (.string ⟨#[82]⟩), .int .u32 51, .int .u32 2, .int .u32 0,
  (.string ⟨#[115, 108, 116, 117]⟩), (.string ⟨#[82]⟩), .int .u32 51, .int .u32 3, .int .u32 0,
  (.string ⟨#[120, 111, 114]⟩), (.string ⟨#[82]⟩), .int .u32 51, .int .u32 4, .int .u32 0,
  (.string ⟨#[115, 114, 108]⟩), (.string ⟨#[82]⟩), .int .u32 51, .int .u32 5, .int .u32 0,
  (.string ⟨#[115, 114, 97]⟩), (.string ⟨#[82]⟩), .int .u32 51, .int .u32 5, .int .u32 32,
  (.string ⟨#[111, 114]⟩), (.string ⟨#[82]⟩), .int .u32 51, .int .u32 6, .int .u32 0,
  (.string ⟨#[97, 110, 100]⟩), (.string ⟨#[82]⟩), .int .u32 51, .int .u32 7, .int .u32 0,
  (.string ⟨#[97, 100, 100, 119]⟩), (.string ⟨#[82]⟩), .int .u32 59, .int .u32 0, .int .u32 0,
  (.string ⟨#[115, 117, 98, 119]⟩), (.string ⟨#[82]⟩), .int .u32 59, .int .u32 0, .int .u32 32,
  (.string ⟨#[115, 108, 108, 119]⟩), (.string ⟨#[82]⟩), .int .u32 59, .int .u32 1, .int .u32 0,
  (.string ⟨#[115, 114, 108, 119]⟩), (.string ⟨#[82]⟩), .int .u32 59, .int .u32 5, .int .u32 0,
  (.string ⟨#[115, 114, 97, 119]⟩), (.string ⟨#[82]⟩), .int .u32 59, .int .u32 5, .int .u32 32,
  (.string ⟨#[109, 117, 108]⟩), (.string ⟨#[82]⟩), .int .u32 51, .int .u32 0, .int .u32 1,
  (.string ⟨#[109, 117, 108, 104]⟩), (.string ⟨#[82]⟩), .int .u32 51, .int .u32 1, .int .u32 1,
  (.string ⟨#[109, 117, 108, 104, 115, 117]⟩), (.string ⟨#[82]⟩), .int .u32 51, .int .u32 2, .int .u32 1,
  (.string ⟨#[109, 117, 108, 104, 117]⟩), (.string ⟨#[82]⟩), .int .u32 51, .int .u32 3, .int .u32 1,
  (.string ⟨#[100, 105, 118]⟩), (.string ⟨#[82]⟩), .int .u32 51, .int .u32 4, .int .u32 1,
  (.string ⟨#[100, 105, 118, 117]⟩), (.string ⟨#[82]⟩), .int .u32 51, .int .u32 5, .int .u32 1,
  (.string ⟨#[114, 101, 109]⟩), (.string ⟨#[82]⟩), .int .u32 51, .int .u32 6, .int .u32 1,
  (.string ⟨#[114, 101, 109, 117]⟩), (.string ⟨#[82]⟩), .int .u32 51, .int .u32 7, .int .u32 1,
  (.string ⟨#[109, 117, 108, 119]⟩), (.string ⟨#[82]⟩), .int .u32 59, .int .u32 0, .int .u32 1,
  (.string ⟨#[100, 105, 118, 119]⟩), (.string ⟨#[82]⟩), .int .u32 59, .int .u32 4, .int .u32 1,
  (.string ⟨#[100, 105, 118, 117, 119]⟩), (.string ⟨#[82]⟩), .int .u32 59, .int .u32 5, .int .u32 1,
  (.string ⟨#[114, 101, 109, 119]⟩), (.string ⟨#[82]⟩), .int .u32 59, .int .u32 6, .int .u32 1,
  (.string ⟨#[114, 101, 109, 117, 119]⟩), (.string ⟨#[82]⟩), .int .u32 59, .int .u32 7, .int .u32 1,
  (.string ⟨#[101, 99, 97, 108, 108]⟩), (.string ⟨#[69]⟩), .int .u32 115, .int .u32 0, .int .u32 0]
def rowR1 : Value := (.agg #[(.string ⟨#[108, 117, 105]⟩), (.string ⟨#[85]⟩), .int .u32 55, .int .u32 0, .int .u32 0])
def rowR2 : Value := (.agg #[(.string ⟨#[97, 117, 105, 112, 99]⟩), (.string ⟨#[85]⟩), .int .u32 23, .int .u32 0, .int .u32 0])
def rowR3 : Value := (.agg #[(.string ⟨#[106, 97, 108]⟩), (.string ⟨#[74]⟩), .int .u32 111, .int .u32 0, .int .u32 0])
def rowR4 : Value := (.agg #[(.string ⟨#[106, 97, 108, 114]⟩), (.string ⟨#[73]⟩), .int .u32 103, .int .u32 0, .int .u32 0])
def rowR5 : Value := (.agg #[(.string ⟨#[98, 101, 113]⟩), (.string ⟨#[66]⟩), .int .u32 99, .int .u32 0, .int .u32 0])
def rowR6 : Value := (.agg #[(.string ⟨#[98, 110, 101]⟩), (.string ⟨#[66]⟩), .int .u32 99, .int .u32 1, .int .u32 0])
def rowR7 : Value := (.agg #[(.string ⟨#[98, 108, 116]⟩), (.string ⟨#[66]⟩), .int .u32 99, .int .u32 4, .int .u32 0])
def rowR8 : Value := (.agg #[(.string ⟨#[98, 103, 101]⟩), (.string ⟨#[66]⟩), .int .u32 99, .int .u32 5, .int .u32 0])
def rowR9 : Value := (.agg #[(.string ⟨#[98, 108, 116, 117]⟩), (.string ⟨#[66]⟩), .int .u32 99, .int .u32 6, .int .u32 0])
def rowR10 : Value := (.agg #[(.string ⟨#[98, 103, 101, 117]⟩), (.string ⟨#[66]⟩), .int .u32 99, .int .u32 7, .int .u32 0])
def rowR11 : Value := (.agg #[(.string ⟨#[108, 98]⟩), (.string ⟨#[73]⟩), .int .u32 3, .int .u32 0, .int .u32 0])
def rowR12 : Value := (.agg #[(.string ⟨#[108, 104]⟩), (.string ⟨#[73]⟩), .int .u32 3, .int .u32 1, .int .u32 0])
def rowR13 : Value := (.agg #[(.string ⟨#[108, 119]⟩), (.string ⟨#[73]⟩), .int .u32 3, .int .u32 2, .int .u32 0])
def rowR14 : Value := (.agg #[(.string ⟨#[108, 100]⟩), (.string ⟨#[73]⟩), .int .u32 3, .int .u32 3, .int .u32 0])
def rowR15 : Value := (.agg #[(.string ⟨#[108, 98, 117]⟩), (.string ⟨#[73]⟩), .int .u32 3, .int .u32 4, .int .u32 0])
def rowR16 : Value := (.agg #[(.string ⟨#[108, 104, 117]⟩), (.string ⟨#[73]⟩), .int .u32 3, .int .u32 5, .int .u32 0])
def rowR17 : Value := (.agg #[(.string ⟨#[108, 119, 117]⟩), (.string ⟨#[73]⟩), .int .u32 3, .int .u32 6, .int .u32 0])
def rowR18 : Value := (.agg #[(.string ⟨#[115, 98]⟩), (.string ⟨#[83]⟩), .int .u32 35, .int .u32 0, .int .u32 0])
def rowR19 : Value := (.agg #[(.string ⟨#[115, 104]⟩), (.string ⟨#[83]⟩), .int .u32 35, .int .u32 1, .int .u32 0])
def rowR20 : Value := (.agg #[(.string ⟨#[115, 119]⟩), (.string ⟨#[83]⟩), .int .u32 35, .int .u32 2, .int .u32 0])
def rowR21 : Value := (.agg #[(.string ⟨#[115, 100]⟩), (.string ⟨#[83]⟩), .int .u32 35, .int .u32 3, .int .u32 0])
def rowR22 : Value := (.agg #[(.string ⟨#[97, 100, 100, 105]⟩), (.string ⟨#[73]⟩), .int .u32 19, .int .u32 0, .int .u32 0])
def rowR23 : Value := (.agg #[(.string ⟨#[115, 108, 116, 105]⟩), (.string ⟨#[73]⟩), .int .u32 19, .int .u32 2, .int .u32 0])
def rowR24 : Value := (.agg #[(.string ⟨#[115, 108, 116, 105, 117]⟩), (.string ⟨#[73]⟩), .int .u32 19, .int .u32 3, .int .u32 0])
def rowR25 : Value := (.agg #[(.string ⟨#[120, 111, 114, 105]⟩), (.string ⟨#[73]⟩), .int .u32 19, .int .u32 4, .int .u32 0])
def rowR26 : Value := (.agg #[(.string ⟨#[111, 114, 105]⟩), (.string ⟨#[73]⟩), .int .u32 19, .int .u32 6, .int .u32 0])
def rowR27 : Value := (.agg #[(.string ⟨#[97, 110, 100, 105]⟩), (.string ⟨#[73]⟩), .int .u32 19, .int .u32 7, .int .u32 0])
def rowR28 : Value := (.agg #[(.string ⟨#[115, 108, 108, 105]⟩), (.string ⟨#[88]⟩), .int .u32 19, .int .u32 1, .int .u32 0])
def rowR29 : Value := (.agg #[(.string ⟨#[115, 114, 108, 105]⟩), (.string ⟨#[88]⟩), .int .u32 19, .int .u32 5, .int .u32 0])
def rowR30 : Value := (.agg #[(.string ⟨#[115, 114, 97, 105]⟩), (.string ⟨#[88]⟩), .int .u32 19, .int .u32 5, .int .u32 16])
def rowR31 : Value := (.agg #[(.string ⟨#[97, 100, 100, 105, 119]⟩), (.string ⟨#[73]⟩), .int .u32 27, .int .u32 0, .int .u32 0])
def rowR32 : Value := (.agg #[(.string ⟨#[115, 108, 108, 105, 119]⟩), (.string ⟨#[89]⟩), .int .u32 27, .int .u32 1, .int .u32 0])
def rowR33 : Value := (.agg #[(.string ⟨#[115, 114, 108, 105, 119]⟩), (.string ⟨#[89]⟩), .int .u32 27, .int .u32 5, .int .u32 0])
def rowR34 : Value := (.agg #[(.string ⟨#[115, 114, 97, 105, 119]⟩), (.string ⟨#[89]⟩), .int .u32 27, .int .u32 5, .int .u32 32])
def rowR35 : Value := (.agg #[(.string ⟨#[97, 100, 100]⟩), (.string ⟨#[82]⟩), .int .u32 51, .int .u32 0, .int .u32 0])
def rowR36 : Value := (.agg #[(.string ⟨#[115, 117, 98]⟩), (.string ⟨#[82]⟩), .int .u32 51, .int .u32 0, .int .u32 32])
def rowR37 : Value := (.agg #[(.string ⟨#[115, 108, 108]⟩), (.string ⟨#[82]⟩), .int .u32 51, .int .u32 1, .int .u32 0])
def rowR38 : Value := (.agg #[(.string ⟨#[115, 108, 116]⟩), (.string ⟨#[82]⟩), .int .u32 51, .int .u32 2, .int .u32 0])
def rowR39 : Value := (.agg #[(.string ⟨#[115, 108, 116, 117]⟩), (.string ⟨#[82]⟩), .int .u32 51, .int .u32 3, .int .u32 0])
def rowR40 : Value := (.agg #[(.string ⟨#[120, 111, 114]⟩), (.string ⟨#[82]⟩), .int .u32 51, .int .u32 4, .int .u32 0])
def rowR41 : Value := (.agg #[(.string ⟨#[115, 114, 108]⟩), (.string ⟨#[82]⟩), .int .u32 51, .int .u32 5, .int .u32 0])
def rowR42 : Value := (.agg #[(.string ⟨#[115, 114, 97]⟩), (.string ⟨#[82]⟩), .int .u32 51, .int .u32 5, .int .u32 32])
def rowR43 : Value := (.agg #[(.string ⟨#[111, 114]⟩), (.string ⟨#[82]⟩), .int .u32 51, .int .u32 6, .int .u32 0])
def rowR44 : Value := (.agg #[(.string ⟨#[97, 110, 100]⟩), (.string ⟨#[82]⟩), .int .u32 51, .int .u32 7, .int .u32 0])
def rowR45 : Value := (.agg #[(.string ⟨#[97, 100, 100, 119]⟩), (.string ⟨#[82]⟩), .int .u32 59, .int .u32 0, .int .u32 0])
def rowR46 : Value := (.agg #[(.string ⟨#[115, 117, 98, 119]⟩), (.string ⟨#[82]⟩), .int .u32 59, .int .u32 0, .int .u32 32])
def rowR47 : Value := (.agg #[(.string ⟨#[115, 108, 108, 119]⟩), (.string ⟨#[82]⟩), .int .u32 59, .int .u32 1, .int .u32 0])
def rowR48 : Value := (.agg #[(.string ⟨#[115, 114, 108, 119]⟩), (.string ⟨#[82]⟩), .int .u32 59, .int .u32 5, .int .u32 0])
def rowR49 : Value := (.agg #[(.string ⟨#[115, 114, 97, 119]⟩), (.string ⟨#[82]⟩), .int .u32 59, .int .u32 5, .int .u32 32])
def rowR50 : Value := (.agg #[(.string ⟨#[109, 117, 108]⟩), (.string ⟨#[82]⟩), .int .u32 51, .int .u32 0, .int .u32 1])
def rowR51 : Value := (.agg #[(.string ⟨#[109, 117, 108, 104]⟩), (.string ⟨#[82]⟩), .int .u32 51, .int .u32 1, .int .u32 1])
def rowR52 : Value := (.agg #[(.string ⟨#[109, 117, 108, 104, 115, 117]⟩), (.string ⟨#[82]⟩), .int .u32 51, .int .u32 2, .int .u32 1])
def rowR53 : Value := (.agg #[(.string ⟨#[109, 117, 108, 104, 117]⟩), (.string ⟨#[82]⟩), .int .u32 51, .int .u32 3, .int .u32 1])
def rowR54 : Value := (.agg #[(.string ⟨#[100, 105, 118]⟩), (.string ⟨#[82]⟩), .int .u32 51, .int .u32 4, .int .u32 1])
def rowR55 : Value := (.agg #[(.string ⟨#[100, 105, 118, 117]⟩), (.string ⟨#[82]⟩), .int .u32 51, .int .u32 5, .int .u32 1])
def rowR56 : Value := (.agg #[(.string ⟨#[114, 101, 109]⟩), (.string ⟨#[82]⟩), .int .u32 51, .int .u32 6, .int .u32 1])
def rowR57 : Value := (.agg #[(.string ⟨#[114, 101, 109, 117]⟩), (.string ⟨#[82]⟩), .int .u32 51, .int .u32 7, .int .u32 1])
def rowR58 : Value := (.agg #[(.string ⟨#[109, 117, 108, 119]⟩), (.string ⟨#[82]⟩), .int .u32 59, .int .u32 0, .int .u32 1])
def rowR59 : Value := (.agg #[(.string ⟨#[100, 105, 118, 119]⟩), (.string ⟨#[82]⟩), .int .u32 59, .int .u32 4, .int .u32 1])
def rowR60 : Value := (.agg #[(.string ⟨#[100, 105, 118, 117, 119]⟩), (.string ⟨#[82]⟩), .int .u32 59, .int .u32 5, .int .u32 1])
def rowR61 : Value := (.agg #[(.string ⟨#[114, 101, 109, 119]⟩), (.string ⟨#[82]⟩), .int .u32 59, .int .u32 6, .int .u32 1])
def rowR62 : Value := (.agg #[(.string ⟨#[114, 101, 109, 117, 119]⟩), (.string ⟨#[82]⟩), .int .u32 59, .int .u32 7, .int .u32 1])
def rowR63 : Value := (.agg #[(.string ⟨#[101, 99, 97, 108, 108]⟩), (.string ⟨#[69]⟩), .int .u32 115, .int .u32 0, .int .u32 0])

def RRowsDone (w : World) (e : Ending) (w' : World) : Prop :=
  e = .returned (.slice (some ⟨w.heap.size, 0, none⟩) 63 63) ∧ w.alloc (.cells rowsR 116) = w'
set_option maxRecDepth 100000 in
set_option maxHeartbeats 2000000 in
theorem rrows_any (w : World) : Calls Tryz.prog 83 #[] w (RRowsDone w) := by
  go_enter Tryz.func83, Tryz.ntmps83
  refine wp_seq ?_
  refine wp_region_lit ?_
  refine plain_list _ _ _ _ _ (by kernel_rfl : plainRun Tryz.prog _ _ _ = some ({ tmps := #[(.slice none 0 0), undef, undef, undef, undef, undef, undef, undef, undef, undef, undef, undef, undef, undef, undef, undef, undef, undef, undef, undef, undef, undef, undef, undef, undef, undef, undef, undef, undef, undef, undef, undef, undef, undef, undef, undef, undef, undef, undef, undef, undef, undef, undef, undef, undef, undef, undef, undef, undef, undef, undef, undef, undef, undef, undef, undef, undef, undef, undef, undef, undef, undef, undef, undef, undef], defers := [] }, w)) ?_
  refine wp_seq ?_
  refine wp_region_lit ?_
  refine plain_list _ _ _ _ _ (by kernel_rfl : plainRun Tryz.prog _ _ _ = some ({ tmps := #[(.slice (some ⟨w.heap.size, 0, none⟩) 63 63), rowR1, rowR2, rowR3, rowR4, rowR5, rowR6, rowR7, rowR8, rowR9, rowR10, rowR11, rowR12, rowR13, rowR14, rowR15, rowR16, rowR17, rowR18, rowR19, rowR20, rowR21, rowR22, rowR23, rowR24, rowR25, rowR26, rowR27, rowR28, rowR29, rowR30, rowR31, rowR32, rowR33, rowR34, rowR35, rowR36, rowR37, rowR38, rowR39, rowR40, rowR41, rowR42, rowR43, rowR44, rowR45, rowR46, rowR47, rowR48, rowR49, rowR50, rowR51, rowR52, rowR53, rowR54, rowR55, rowR56, rowR57, rowR58, rowR59, rowR60, rowR61, rowR62, rowR63, (.slice (some ⟨w.heap.size, 0, none⟩) 63 63)], defers := [] }, w.alloc (.cells rowsR 116))) ?_
  go_wp2
  go_ret
  exact ⟨rfl, rfl⟩
def RRowCell (k : Nat) : Prop := rowsR[(k - 1) * 5]? = some (.string (nameB k)) ∧ rowsR[(k - 1) * 5 + 1]? = some (.string (FormStr (rvRowN k).form)) ∧ rowsR[(k - 1) * 5 + 2]? = some (.int .u32 (aB k)) ∧ rowsR[(k - 1) * 5 + 3]? = some (.int .u32 (bB k)) ∧ rowsR[(k - 1) * 5 + 4]? = some (.int .u32 (cB k))
set_option maxRecDepth 100000 in
theorem rrow_cell : ∀ (k : Nat), 1 ≤ k → k < 64 → RRowCell k
  | 0, h, _ => absurd h (by decide)
  | 1, _, _ => ⟨by kernel_rfl, by kernel_rfl, by kernel_rfl, by kernel_rfl, by kernel_rfl⟩
  | 2, _, _ => ⟨by kernel_rfl, by kernel_rfl, by kernel_rfl, by kernel_rfl, by kernel_rfl⟩
  | 3, _, _ => ⟨by kernel_rfl, by kernel_rfl, by kernel_rfl, by kernel_rfl, by kernel_rfl⟩
  | 4, _, _ => ⟨by kernel_rfl, by kernel_rfl, by kernel_rfl, by kernel_rfl, by kernel_rfl⟩
  | 5, _, _ => ⟨by kernel_rfl, by kernel_rfl, by kernel_rfl, by kernel_rfl, by kernel_rfl⟩
  | 6, _, _ => ⟨by kernel_rfl, by kernel_rfl, by kernel_rfl, by kernel_rfl, by kernel_rfl⟩
  | 7, _, _ => ⟨by kernel_rfl, by kernel_rfl, by kernel_rfl, by kernel_rfl, by kernel_rfl⟩
  | 8, _, _ => ⟨by kernel_rfl, by kernel_rfl, by kernel_rfl, by kernel_rfl, by kernel_rfl⟩
  | 9, _, _ => ⟨by kernel_rfl, by kernel_rfl, by kernel_rfl, by kernel_rfl, by kernel_rfl⟩
  | 10, _, _ => ⟨by kernel_rfl, by kernel_rfl, by kernel_rfl, by kernel_rfl, by kernel_rfl⟩
  | 11, _, _ => ⟨by kernel_rfl, by kernel_rfl, by kernel_rfl, by kernel_rfl, by kernel_rfl⟩
  | 12, _, _ => ⟨by kernel_rfl, by kernel_rfl, by kernel_rfl, by kernel_rfl, by kernel_rfl⟩
  | 13, _, _ => ⟨by kernel_rfl, by kernel_rfl, by kernel_rfl, by kernel_rfl, by kernel_rfl⟩
  | 14, _, _ => ⟨by kernel_rfl, by kernel_rfl, by kernel_rfl, by kernel_rfl, by kernel_rfl⟩
  | 15, _, _ => ⟨by kernel_rfl, by kernel_rfl, by kernel_rfl, by kernel_rfl, by kernel_rfl⟩
  | 16, _, _ => ⟨by kernel_rfl, by kernel_rfl, by kernel_rfl, by kernel_rfl, by kernel_rfl⟩
  | 17, _, _ => ⟨by kernel_rfl, by kernel_rfl, by kernel_rfl, by kernel_rfl, by kernel_rfl⟩
  | 18, _, _ => ⟨by kernel_rfl, by kernel_rfl, by kernel_rfl, by kernel_rfl, by kernel_rfl⟩
  | 19, _, _ => ⟨by kernel_rfl, by kernel_rfl, by kernel_rfl, by kernel_rfl, by kernel_rfl⟩
  | 20, _, _ => ⟨by kernel_rfl, by kernel_rfl, by kernel_rfl, by kernel_rfl, by kernel_rfl⟩
  | 21, _, _ => ⟨by kernel_rfl, by kernel_rfl, by kernel_rfl, by kernel_rfl, by kernel_rfl⟩
  | 22, _, _ => ⟨by kernel_rfl, by kernel_rfl, by kernel_rfl, by kernel_rfl, by kernel_rfl⟩
  | 23, _, _ => ⟨by kernel_rfl, by kernel_rfl, by kernel_rfl, by kernel_rfl, by kernel_rfl⟩
  | 24, _, _ => ⟨by kernel_rfl, by kernel_rfl, by kernel_rfl, by kernel_rfl, by kernel_rfl⟩
  | 25, _, _ => ⟨by kernel_rfl, by kernel_rfl, by kernel_rfl, by kernel_rfl, by kernel_rfl⟩
  | 26, _, _ => ⟨by kernel_rfl, by kernel_rfl, by kernel_rfl, by kernel_rfl, by kernel_rfl⟩
  | 27, _, _ => ⟨by kernel_rfl, by kernel_rfl, by kernel_rfl, by kernel_rfl, by kernel_rfl⟩
  | 28, _, _ => ⟨by kernel_rfl, by kernel_rfl, by kernel_rfl, by kernel_rfl, by kernel_rfl⟩
  | 29, _, _ => ⟨by kernel_rfl, by kernel_rfl, by kernel_rfl, by kernel_rfl, by kernel_rfl⟩
  | 30, _, _ => ⟨by kernel_rfl, by kernel_rfl, by kernel_rfl, by kernel_rfl, by kernel_rfl⟩
  | 31, _, _ => ⟨by kernel_rfl, by kernel_rfl, by kernel_rfl, by kernel_rfl, by kernel_rfl⟩
  | 32, _, _ => ⟨by kernel_rfl, by kernel_rfl, by kernel_rfl, by kernel_rfl, by kernel_rfl⟩
  | 33, _, _ => ⟨by kernel_rfl, by kernel_rfl, by kernel_rfl, by kernel_rfl, by kernel_rfl⟩
  | 34, _, _ => ⟨by kernel_rfl, by kernel_rfl, by kernel_rfl, by kernel_rfl, by kernel_rfl⟩
  | 35, _, _ => ⟨by kernel_rfl, by kernel_rfl, by kernel_rfl, by kernel_rfl, by kernel_rfl⟩
  | 36, _, _ => ⟨by kernel_rfl, by kernel_rfl, by kernel_rfl, by kernel_rfl, by kernel_rfl⟩
  | 37, _, _ => ⟨by kernel_rfl, by kernel_rfl, by kernel_rfl, by kernel_rfl, by kernel_rfl⟩
  | 38, _, _ => ⟨by kernel_rfl, by kernel_rfl, by kernel_rfl, by kernel_rfl, by kernel_rfl⟩
  | 39, _, _ => ⟨by kernel_rfl, by kernel_rfl, by kernel_rfl, by kernel_rfl, by kernel_rfl⟩
  | 40, _, _ => ⟨by kernel_rfl, by kernel_rfl, by kernel_rfl, by kernel_rfl, by kernel_rfl⟩
  | 41, _, _ => ⟨by kernel_rfl, by kernel_rfl, by kernel_rfl, by kernel_rfl, by kernel_rfl⟩
  | 42, _, _ => ⟨by kernel_rfl, by kernel_rfl, by kernel_rfl, by kernel_rfl, by kernel_rfl⟩
  | 43, _, _ => ⟨by kernel_rfl, by kernel_rfl, by kernel_rfl, by kernel_rfl, by kernel_rfl⟩
  | 44, _, _ => ⟨by kernel_rfl, by kernel_rfl, by kernel_rfl, by kernel_rfl, by kernel_rfl⟩
  | 45, _, _ => ⟨by kernel_rfl, by kernel_rfl, by kernel_rfl, by kernel_rfl, by kernel_rfl⟩
  | 46, _, _ => ⟨by kernel_rfl, by kernel_rfl, by kernel_rfl, by kernel_rfl, by kernel_rfl⟩
  | 47, _, _ => ⟨by kernel_rfl, by kernel_rfl, by kernel_rfl, by kernel_rfl, by kernel_rfl⟩
  | 48, _, _ => ⟨by kernel_rfl, by kernel_rfl, by kernel_rfl, by kernel_rfl, by kernel_rfl⟩
  | 49, _, _ => ⟨by kernel_rfl, by kernel_rfl, by kernel_rfl, by kernel_rfl, by kernel_rfl⟩
  | 50, _, _ => ⟨by kernel_rfl, by kernel_rfl, by kernel_rfl, by kernel_rfl, by kernel_rfl⟩
  | 51, _, _ => ⟨by kernel_rfl, by kernel_rfl, by kernel_rfl, by kernel_rfl, by kernel_rfl⟩
  | 52, _, _ => ⟨by kernel_rfl, by kernel_rfl, by kernel_rfl, by kernel_rfl, by kernel_rfl⟩
  | 53, _, _ => ⟨by kernel_rfl, by kernel_rfl, by kernel_rfl, by kernel_rfl, by kernel_rfl⟩
  | 54, _, _ => ⟨by kernel_rfl, by kernel_rfl, by kernel_rfl, by kernel_rfl, by kernel_rfl⟩
  | 55, _, _ => ⟨by kernel_rfl, by kernel_rfl, by kernel_rfl, by kernel_rfl, by kernel_rfl⟩
  | 56, _, _ => ⟨by kernel_rfl, by kernel_rfl, by kernel_rfl, by kernel_rfl, by kernel_rfl⟩
  | 57, _, _ => ⟨by kernel_rfl, by kernel_rfl, by kernel_rfl, by kernel_rfl, by kernel_rfl⟩
  | 58, _, _ => ⟨by kernel_rfl, by kernel_rfl, by kernel_rfl, by kernel_rfl, by kernel_rfl⟩
  | 59, _, _ => ⟨by kernel_rfl, by kernel_rfl, by kernel_rfl, by kernel_rfl, by kernel_rfl⟩
  | 60, _, _ => ⟨by kernel_rfl, by kernel_rfl, by kernel_rfl, by kernel_rfl, by kernel_rfl⟩
  | 61, _, _ => ⟨by kernel_rfl, by kernel_rfl, by kernel_rfl, by kernel_rfl, by kernel_rfl⟩
  | 62, _, _ => ⟨by kernel_rfl, by kernel_rfl, by kernel_rfl, by kernel_rfl, by kernel_rfl⟩
  | 63, _, _ => ⟨by kernel_rfl, by kernel_rfl, by kernel_rfl, by kernel_rfl, by kernel_rfl⟩
  | n + 64, _, h => absurd h (Nat.not_lt.2 (Nat.le_add_left 64 n))
theorem rrows_cells {w : World} {g : Nat} {k : Nat} (h : w.heap[g]? = some (.cells rowsR 116 (0, 0))) (h1 : 1 ≤ k) (hk : k < 64) :
    w.cell? ⟨g, (k - 1) * 5, none⟩ = some (.string (nameB k)) ∧ w.cell? ⟨g, (k - 1) * 5 + 1, none⟩ = some (.string (FormStr (rvRowN k).form)) ∧ w.cell? ⟨g, (k - 1) * 5 + 2, none⟩ = some (.int .u32 (aB k)) ∧ w.cell? ⟨g, (k - 1) * 5 + 3, none⟩ = some (.int .u32 (bB k)) ∧ w.cell? ⟨g, (k - 1) * 5 + 4, none⟩ = some (.int .u32 (cB k)) := by
  obtain ⟨h0, h1, h2, h3, h4⟩ := rrow_cell k h1 hk
  exact ⟨(cell_of_row _ _ _ _ _ _ h).trans h0, (cell_of_row _ _ _ _ _ _ h).trans h1, (cell_of_row _ _ _ _ _ _ h).trans h2, (cell_of_row _ _ _ _ _ _ h).trans h3, (cell_of_row _ _ _ _ _ _ h).trans h4⟩


def RRowYes (w : World) (k : Nat) (s t : ByteArray) (a b c : Int) (e : Ending) (w' : World) : Prop := e = .returned (.tuple #[.agg #[.string s, .string t, .int .u32 a, .int .u32 b, .int .u32 c], .bool true]) ∧ Below w.heap.size w w'
def RRowNo (w : World) (e : Ending) (w' : World) : Prop := e = .returned (.tuple #[.agg #[.string ⟨#[]⟩, .string ⟨#[]⟩, .int .u32 0, .int .u32 0, .int .u32 0], .bool false]) ∧ Below w.heap.size w w'
theorem rrow_no (op : Int) (w : World) (h : op < 1 ∨ 63 < op) : Calls Tryz.prog 70 #[.int .i64 op] w (RRowNo w) := by
  rcases h with h | h
  · go_enter Tryz.func70, Tryz.ntmps70
    go_wp2_with (go_at_call 83; (with_reducible refine (rrows_any _).mono ?_); rintro e w1 ⟨rfl, rfl⟩)
    exact bodyPost_ret (v := .tuple #[.agg #[.string ⟨#[]⟩, .string ⟨#[]⟩, .int .u32 0, .int .u32 0, .int .u32 0], .bool false]) (by simp [results, Tryz.results70, go_sem]) rfl ⟨rfl, ((Below.refl _ _).alloc (Nat.le_refl _) _).alloc (by simp) _⟩
  · have h' : ¬ op < 1 := by omega
    go_enter Tryz.func70, Tryz.ntmps70
    go_wp2_with (go_at_call 83; (with_reducible refine (rrows_any _).mono ?_); rintro e w1 ⟨rfl, rfl⟩)
    exact bodyPost_ret (v := .tuple #[.agg #[.string ⟨#[]⟩, .string ⟨#[]⟩, .int .u32 0, .int .u32 0, .int .u32 0], .bool false]) (by simp [results, Tryz.results70, go_sem]) rfl ⟨rfl, ((Below.refl _ _).alloc (Nat.le_refl _) _).alloc (by simp) _⟩
set_option maxHeartbeats 1000000 in
theorem rrow_yes (k : Nat) (w : World) (h : 1 ≤ k) (h' : k ≤ 63) : Calls Tryz.prog 70 #[.int .i64 k] w (RRowYes w k (nameB k) (FormStr (rvRowN k).form) (aB k) (bB k) (cB k)) := by
  have h1 : (1 : Int) ≤ (k : Int) := by omega
  have h2 : (k : Int) ≤ 63 := by omega
  have HC := Lib.hid (fun (w : World) (g : Nat) hh => (rrows_cells (w := w) (g := g) (k := k) hh h (by omega)))
  generalize nameB k = s0 at *
  generalize FormStr (rvRowN k).form = s1 at *
  generalize aB k = s2 at *
  generalize bB k = s3 at *
  generalize cB k = s4 at *
  obtain ⟨j, rfl⟩ : ∃ j, k = j + 1 := ⟨k - 1, by omega⟩
  have hj : (((j + 1 : Nat) : Int) - 1).toNat = j := by omega
  have hj1 : (0 : Int) ≤ (j : Int) := by omega
  have hj2 : (j : Int) < 63 := by omega
  have HZ := Lib.hid (show ∀ o : Obj, (w.alloc o).heap.size = w.heap.size + 1 from fun o => by simp)
  go_enter Tryz.func70, Tryz.ntmps70
  go_wp2_with (go_at_call 83; (with_reducible refine (rrows_any _).mono ?_); rintro e w1 ⟨rfl, rfl⟩; rw [HZ.out]; have hg := heap_alloc_new (w.alloc (.cells #[.string ⟨#[]⟩, .string ⟨#[]⟩, .int .u32 0, .int .u32 0, .int .u32 0] 116)) (.cells rowsR 116); rw [HZ.out] at hg; obtain ⟨c0, c1, c2, c3, c4⟩ := HC.out _ _ hg; clear hg; simp only [Nat.add_sub_cancel] at c0 c1 c2 c3 c4)
  exact bodyPost_ret (v := .tuple #[.agg #[.string s0, .string s1, .int .u32 s2, .int .u32 s3, .int .u32 s4], .bool true]) (by simp [results, Tryz.results70, go_sem]) rfl ⟨rfl, ((Below.refl _ _).alloc (Nat.le_refl _) _).alloc (by simp) _⟩
def SaysB (w : World) (b : Bool) (e : Ending) (w' : World) : Prop := e = .returned (.bool b) ∧ w = w'
theorem register_yes (n : Int) (b : Bool) (w : World) (h : regOk n b) : Calls Tryz.prog 143 #[.int .i64 n, .bool b] w (SaysB w true) := by
  unfold regOk at h
  cases b
  · simp at h
    subst h
    go_enter Tryz.func143, Tryz.ntmps143
    go_wp2
    go_ret
    exact ⟨rfl, rfl⟩
  · simp at h
    obtain ⟨h1, h2⟩ := h
    go_enter Tryz.func143, Tryz.ntmps143
    go_wp2
    go_ret
    exact ⟨ret_bool (by simp <;> omega), rfl⟩
theorem immediate_yes_R (n : Int) (w : World) (h : immOk .R n) : Calls Tryz.prog 144 #[(.string ⟨#[82]⟩), .int .i64 n] w (SaysB w true) := by
  simp only [immOk] at h
  subst h
  go_enter Tryz.func144, Tryz.ntmps144
  go_wp2
  go_ret
  exact ⟨ret_bool (by simp <;> omega), rfl⟩
theorem immediate_yes_I (n : Int) (w : World) (h : immOk .I n) : Calls Tryz.prog 144 #[(.string ⟨#[73]⟩), .int .i64 n] w (SaysB w true) := by
  simp only [immOk] at h
  obtain ⟨h1, h2⟩ := h
  go_enter Tryz.func144, Tryz.ntmps144
  go_wp2
  go_ret
  exact ⟨ret_bool (by simp <;> omega), rfl⟩
theorem immediate_yes_X (n : Int) (w : World) (h : immOk .X n) : Calls Tryz.prog 144 #[(.string ⟨#[88]⟩), .int .i64 n] w (SaysB w true) := by
  simp only [immOk] at h
  obtain ⟨h1, h2⟩ := h
  go_enter Tryz.func144, Tryz.ntmps144
  go_wp2
  go_ret
  exact ⟨ret_bool (by simp <;> omega), rfl⟩
theorem immediate_yes_Y (n : Int) (w : World) (h : immOk .Y n) : Calls Tryz.prog 144 #[(.string ⟨#[89]⟩), .int .i64 n] w (SaysB w true) := by
  simp only [immOk] at h
  obtain ⟨h1, h2⟩ := h
  go_enter Tryz.func144, Tryz.ntmps144
  go_wp2
  go_ret
  exact ⟨ret_bool (by simp <;> omega), rfl⟩
theorem immediate_yes_S (n : Int) (w : World) (h : immOk .S n) : Calls Tryz.prog 144 #[(.string ⟨#[83]⟩), .int .i64 n] w (SaysB w true) := by
  simp only [immOk] at h
  obtain ⟨h1, h2⟩ := h
  go_enter Tryz.func144, Tryz.ntmps144
  go_wp2
  go_ret
  exact ⟨ret_bool (by simp <;> omega), rfl⟩
theorem immediate_yes_B (n : Int) (w : World) (h : immOk .B n) : Calls Tryz.prog 144 #[(.string ⟨#[66]⟩), .int .i64 n] w (SaysB w true) := by
  simp only [immOk] at h
  obtain ⟨h1, h2, h3⟩ := h
  have h4 : n.tmod 2 = 0 := Int.tmod_eq_zero_of_dvd (Int.dvd_of_emod_eq_zero h3)
  go_enter Tryz.func144, Tryz.ntmps144
  go_wp2
  go_ret
  exact ⟨ret_bool (by simp <;> omega), rfl⟩
theorem immediate_yes_U (n : Int) (w : World) (h : immOk .U n) : Calls Tryz.prog 144 #[(.string ⟨#[85]⟩), .int .i64 n] w (SaysB w true) := by
  simp only [immOk] at h
  obtain ⟨h1, h2⟩ := h
  go_enter Tryz.func144, Tryz.ntmps144
  go_wp2
  go_ret
  exact ⟨ret_bool (by simp <;> omega), rfl⟩
theorem immediate_yes_J (n : Int) (w : World) (h : immOk .J n) : Calls Tryz.prog 144 #[(.string ⟨#[74]⟩), .int .i64 n] w (SaysB w true) := by
  simp only [immOk] at h
  obtain ⟨h1, h2, h3⟩ := h
  have h4 : n.tmod 2 = 0 := Int.tmod_eq_zero_of_dvd (Int.dvd_of_emod_eq_zero h3)
  go_enter Tryz.func144, Tryz.ntmps144
  go_wp2
  go_ret
  exact ⟨ret_bool (by simp <;> omega), rfl⟩
theorem immediate_yes_E (n : Int) (w : World) (h : immOk .E n) : Calls Tryz.prog 144 #[(.string ⟨#[69]⟩), .int .i64 n] w (SaysB w true) := by
  simp only [immOk] at h
  subst h
  go_enter Tryz.func144, Tryz.ntmps144
  go_wp2
  go_ret
  exact ⟨ret_bool (by simp <;> omega), rfl⟩
theorem above_R (w : World) : Calls Tryz.prog 125 #[(.string ⟨#[82]⟩)] w fun e w' => e = .returned (.int .u64 25) ∧ w = w' := by
  go_enter Tryz.func125, Tryz.ntmps125
  go_wp2
  go_ret
  exact ⟨rfl, rfl⟩
theorem above_X (w : World) : Calls Tryz.prog 125 #[(.string ⟨#[88]⟩)] w fun e w' => e = .returned (.int .u64 26) ∧ w = w' := by
  go_enter Tryz.func125, Tryz.ntmps125
  go_wp2
  go_ret
  exact ⟨rfl, rfl⟩
theorem above_Y (w : World) : Calls Tryz.prog 125 #[(.string ⟨#[89]⟩)] w fun e w' => e = .returned (.int .u64 25) ∧ w = w' := by
  go_enter Tryz.func125, Tryz.ntmps125
  go_wp2
  go_ret
  exact ⟨rfl, rfl⟩
end Go.Proofs.YtnaceogkaiodnaaGreat
namespace Go.Proofs.YtnaceogkaiodnaaGreat
open Go.RowKit
set_option linter.unusedVariables false
set_option linter.unusedSimpArgs false

def RCheckDone (w : World) (e0 : Int) (e : Ending) (w' : World) : Prop := e = .returned (.int .i64 e0) ∧ Below w.heap.size w w'
set_option maxHeartbeats 2000000 in
set_option maxRecDepth 100000 in
theorem rcheck_R_0 (op rd rs1 rs2 imm : Int) (k : Nat) (s : ByteArray) (a b c : Int) (w : World) (hr : ∀ w, Calls Tryz.prog 70 #[.int .i64 op] w (RRowYes w k s ⟨#[82]⟩ a b c)) (h0 : ∀ w, Calls Tryz.prog 143 #[.int .i64 rd, .bool true] w (SaysB w true)) (h1 : ∀ w, Calls Tryz.prog 143 #[.int .i64 rs1, .bool true] w (SaysB w true)) (h2 : ∀ w, Calls Tryz.prog 143 #[.int .i64 rs2, .bool true] w (SaysB w true)) (h3 : ∀ w, Calls Tryz.prog 144 #[(.string ⟨#[82]⟩), .int .i64 imm] w (SaysB w true)) :
    Calls Tryz.prog 123 #[.agg #[.int .i64 op, .int .i64 rd, .int .i64 rs1, .int .i64 rs2, .int .i64 imm]] w (RCheckDone w 0) := by
  have HR := Lib.hid hr
  have HX0 := Lib.hid (show ∀ j v, #[Value.int .i64 op, .int .i64 rd, .int .i64 rs1, .int .i64 rs2, .int .i64 imm][j]? = some v → (w.alloc (.cells #[.int .i64 op, .int .i64 rd, .int .i64 rs1, .int .i64 rs2, .int .i64 imm] 76)).cell? ⟨w.heap.size, j, none⟩ = some v from fun j v hv => new_cell _ _ _ _ _ _ rfl hv)
  have H0 := Lib.hid h0
  have H1 := Lib.hid h1
  have H2 := Lib.hid h2
  have H3 := Lib.hid h3
  clear hr h0 h1 h2 h3
  go_enter Tryz.func123, Tryz.ntmps123
  go_wp2_with (first
    | (go_at_call 70; (with_reducible refine (HR.out _).mono ?_); rintro e w1 ⟨rfl, hb⟩; have x0 := (hb.cell (p := ⟨w.heap.size, 0, none⟩) (by simp)).trans (HX0.out 0 _ rfl); have x1 := (hb.cell (p := ⟨w.heap.size, 1, none⟩) (by simp)).trans (HX0.out 1 _ rfl); have x2 := (hb.cell (p := ⟨w.heap.size, 2, none⟩) (by simp)).trans (HX0.out 2 _ rfl); have x3 := (hb.cell (p := ⟨w.heap.size, 3, none⟩) (by simp)).trans (HX0.out 3 _ rfl); have x4 := (hb.cell (p := ⟨w.heap.size, 4, none⟩) (by simp)).trans (HX0.out 4 _ rfl); have HB := Lib.hid hb; have zz : w.heap.size < w1.heap.size := (by have := hb.size; simp at this; omega); clear hb)
    | (go_at_call 143; (with_reducible refine (H0.out _).mono ?_); rintro e w' ⟨rfl, rfl⟩)
    | (go_at_call 143; (with_reducible refine (H1.out _).mono ?_); rintro e w' ⟨rfl, rfl⟩)
    | (go_at_call 143; (with_reducible refine (H2.out _).mono ?_); rintro e w' ⟨rfl, rfl⟩)
    | (go_at_call 144; (with_reducible refine (H3.out _).mono ?_); rintro e w' ⟨rfl, rfl⟩))
  go_ret
  exact ⟨rfl, (((Below.refl _ _).alloc (Nat.le_refl _) _).trans (HB.out.mono (by simp))).alloc (Nat.le_of_lt zz) _⟩

set_option maxHeartbeats 2000000 in
set_option maxRecDepth 100000 in
theorem rcheck_I_0 (op rd rs1 rs2 imm : Int) (k : Nat) (s : ByteArray) (a b c : Int) (w : World) (hr : ∀ w, Calls Tryz.prog 70 #[.int .i64 op] w (RRowYes w k s ⟨#[73]⟩ a b c)) (h0 : ∀ w, Calls Tryz.prog 143 #[.int .i64 rd, .bool true] w (SaysB w true)) (h1 : ∀ w, Calls Tryz.prog 143 #[.int .i64 rs1, .bool true] w (SaysB w true)) (h2 : ∀ w, Calls Tryz.prog 143 #[.int .i64 rs2, .bool false] w (SaysB w true)) (h3 : ∀ w, Calls Tryz.prog 144 #[(.string ⟨#[73]⟩), .int .i64 imm] w (SaysB w true)) :
    Calls Tryz.prog 123 #[.agg #[.int .i64 op, .int .i64 rd, .int .i64 rs1, .int .i64 rs2, .int .i64 imm]] w (RCheckDone w 0) := by
  have HR := Lib.hid hr
  have HX0 := Lib.hid (show ∀ j v, #[Value.int .i64 op, .int .i64 rd, .int .i64 rs1, .int .i64 rs2, .int .i64 imm][j]? = some v → (w.alloc (.cells #[.int .i64 op, .int .i64 rd, .int .i64 rs1, .int .i64 rs2, .int .i64 imm] 76)).cell? ⟨w.heap.size, j, none⟩ = some v from fun j v hv => new_cell _ _ _ _ _ _ rfl hv)
  have H0 := Lib.hid h0
  have H1 := Lib.hid h1
  have H2 := Lib.hid h2
  have H3 := Lib.hid h3
  clear hr h0 h1 h2 h3
  go_enter Tryz.func123, Tryz.ntmps123
  go_wp2_with (first
    | (go_at_call 70; (with_reducible refine (HR.out _).mono ?_); rintro e w1 ⟨rfl, hb⟩; have x0 := (hb.cell (p := ⟨w.heap.size, 0, none⟩) (by simp)).trans (HX0.out 0 _ rfl); have x1 := (hb.cell (p := ⟨w.heap.size, 1, none⟩) (by simp)).trans (HX0.out 1 _ rfl); have x2 := (hb.cell (p := ⟨w.heap.size, 2, none⟩) (by simp)).trans (HX0.out 2 _ rfl); have x3 := (hb.cell (p := ⟨w.heap.size, 3, none⟩) (by simp)).trans (HX0.out 3 _ rfl); have x4 := (hb.cell (p := ⟨w.heap.size, 4, none⟩) (by simp)).trans (HX0.out 4 _ rfl); have HB := Lib.hid hb; have zz : w.heap.size < w1.heap.size := (by have := hb.size; simp at this; omega); clear hb)
    | (go_at_call 143; (with_reducible refine (H0.out _).mono ?_); rintro e w' ⟨rfl, rfl⟩)
    | (go_at_call 143; (with_reducible refine (H1.out _).mono ?_); rintro e w' ⟨rfl, rfl⟩)
    | (go_at_call 143; (with_reducible refine (H2.out _).mono ?_); rintro e w' ⟨rfl, rfl⟩)
    | (go_at_call 144; (with_reducible refine (H3.out _).mono ?_); rintro e w' ⟨rfl, rfl⟩))
  go_ret
  exact ⟨rfl, (((Below.refl _ _).alloc (Nat.le_refl _) _).trans (HB.out.mono (by simp))).alloc (Nat.le_of_lt zz) _⟩

set_option maxHeartbeats 2000000 in
set_option maxRecDepth 100000 in
theorem rcheck_X_0 (op rd rs1 rs2 imm : Int) (k : Nat) (s : ByteArray) (a b c : Int) (w : World) (hr : ∀ w, Calls Tryz.prog 70 #[.int .i64 op] w (RRowYes w k s ⟨#[88]⟩ a b c)) (h0 : ∀ w, Calls Tryz.prog 143 #[.int .i64 rd, .bool true] w (SaysB w true)) (h1 : ∀ w, Calls Tryz.prog 143 #[.int .i64 rs1, .bool true] w (SaysB w true)) (h2 : ∀ w, Calls Tryz.prog 143 #[.int .i64 rs2, .bool false] w (SaysB w true)) (h3 : ∀ w, Calls Tryz.prog 144 #[(.string ⟨#[88]⟩), .int .i64 imm] w (SaysB w true)) :
    Calls Tryz.prog 123 #[.agg #[.int .i64 op, .int .i64 rd, .int .i64 rs1, .int .i64 rs2, .int .i64 imm]] w (RCheckDone w 0) := by
  have HR := Lib.hid hr
  have HX0 := Lib.hid (show ∀ j v, #[Value.int .i64 op, .int .i64 rd, .int .i64 rs1, .int .i64 rs2, .int .i64 imm][j]? = some v → (w.alloc (.cells #[.int .i64 op, .int .i64 rd, .int .i64 rs1, .int .i64 rs2, .int .i64 imm] 76)).cell? ⟨w.heap.size, j, none⟩ = some v from fun j v hv => new_cell _ _ _ _ _ _ rfl hv)
  have H0 := Lib.hid h0
  have H1 := Lib.hid h1
  have H2 := Lib.hid h2
  have H3 := Lib.hid h3
  clear hr h0 h1 h2 h3
  go_enter Tryz.func123, Tryz.ntmps123
  go_wp2_with (first
    | (go_at_call 70; (with_reducible refine (HR.out _).mono ?_); rintro e w1 ⟨rfl, hb⟩; have x0 := (hb.cell (p := ⟨w.heap.size, 0, none⟩) (by simp)).trans (HX0.out 0 _ rfl); have x1 := (hb.cell (p := ⟨w.heap.size, 1, none⟩) (by simp)).trans (HX0.out 1 _ rfl); have x2 := (hb.cell (p := ⟨w.heap.size, 2, none⟩) (by simp)).trans (HX0.out 2 _ rfl); have x3 := (hb.cell (p := ⟨w.heap.size, 3, none⟩) (by simp)).trans (HX0.out 3 _ rfl); have x4 := (hb.cell (p := ⟨w.heap.size, 4, none⟩) (by simp)).trans (HX0.out 4 _ rfl); have HB := Lib.hid hb; have zz : w.heap.size < w1.heap.size := (by have := hb.size; simp at this; omega); clear hb)
    | (go_at_call 143; (with_reducible refine (H0.out _).mono ?_); rintro e w' ⟨rfl, rfl⟩)
    | (go_at_call 143; (with_reducible refine (H1.out _).mono ?_); rintro e w' ⟨rfl, rfl⟩)
    | (go_at_call 143; (with_reducible refine (H2.out _).mono ?_); rintro e w' ⟨rfl, rfl⟩)
    | (go_at_call 144; (with_reducible refine (H3.out _).mono ?_); rintro e w' ⟨rfl, rfl⟩))
  go_ret
  exact ⟨rfl, (((Below.refl _ _).alloc (Nat.le_refl _) _).trans (HB.out.mono (by simp))).alloc (Nat.le_of_lt zz) _⟩

end Go.Proofs.YtnaceogkaiodnaaGreat
