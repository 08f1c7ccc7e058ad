/-
  DERIVED. GIVEN WITH THE SEED: THE PROGRAM's TIES (one call each: nine closed facts by the kernel) AND EACH ROW's TIE, after the 31st guide's Derived/Test/Toyas{Tie, Card}.lean. No idea stands in it: it is a product of the set-up. Laid BY PROGRAM, IN A SANDBOX (cutbox-door.mjs). By AI agents, Wed Nov 11 2026. No macro, syntax, notation, axiom, sorry.
-/
import Derived.Test.YtpcaiechaakhnabGreatDoorRows
import Derived.LaidByTextLater
import Derived.SevenTiedAt
import Derived.LaidSub
import Derived.LaidOnce
namespace Go.Proofs.YtpcaiechaakhnabGreatDoor
open Go
set_option maxRecDepth 100000
theorem seatTie1 : Tryz.prog.laidByTextLater [("unicode/utf8.acceptRanges", Rows.laid_unicode_utf8_acceptRanges), ("manyhands/escape.pairs", Rows.laid_manyhands_escape_pairs), ("manyhands/link.schemes", Rows.laid_manyhands_link_schemes), ("manyhands/export.blockNames", Rows.laid_manyhands_export_blockNames), ("manyhands/export.markNames", Rows.laid_manyhands_export_markNames), ("manyhands/sanitize.blockNames", Rows.laid_manyhands_sanitize_blockNames), ("manyhands/sanitize.hidingNames", Rows.laid_manyhands_sanitize_hidingNames)] [.data, .data, .data, .data, .data, .data, .data] true :=
  Program.laidByTextLater_by_one 84 8 257 (by kernel_rfl) (by kernel_rfl) (by kernel_rfl) (by kernel_rfl) (by kernel_rfl) (by kernel_rfl) (fun _ _ => by kernel_rfl)
theorem seatTie2 : Tryz.prog.laidByTextLater [("unicode/utf8.acceptRanges", Rows.laid_unicode_utf8_acceptRanges), ("unicode.White_Space", Rows.laid_unicode_White_Space), ("strings.asciiSpace", Rows.laid_strings_asciiSpace), ("manyhands/escape.pairs", Rows.laid_manyhands_escape_pairs), ("manyhands/link.schemes", Rows.laid_manyhands_link_schemes), ("manyhands/export.blockNames", Rows.laid_manyhands_export_blockNames), ("manyhands/export.markNames", Rows.laid_manyhands_export_markNames), ("manyhands/sanitize.blockNames", Rows.laid_manyhands_sanitize_blockNames), ("manyhands/sanitize.hidingNames", Rows.laid_manyhands_sanitize_hidingNames)] [.data, .listed, .data, .data, .data, .data, .data, .data, .data] true :=
  Program.laidByTextLater_by_one 84 8 257 (by kernel_rfl) (by kernel_rfl) (by kernel_rfl) (by kernel_rfl) (by kernel_rfl) (by kernel_rfl) (fun _ _ => by kernel_rfl)
theorem pin_laid_unicode_utf8_first : Tryz.pinned.checked.prog.pinnedFits "unicode/utf8.first" = true := by kernel_rfl
theorem noOwnUnsafe : Tryz.pinned.checked.prog.headLifts.contains "ownunsafe" = false := by kernel_rfl
theorem tie : Tryz.prog.laidByTextLater [("manyhands/escape.pairs", Rows.laid_manyhands_escape_pairs)] [.data] true :=
  Program.laidByTextLater.sub seatTie1 ["manyhands/escape.pairs"] (by kernel_rfl) (by kernel_rfl)
theorem tokenSays_row_tie : Rows.tokenSaysRow.laidByTextAt .later Tryz.pinned [.data] true :=
  OpenClaim.laidByTextAt_later rfl rfl tie noOwnUnsafe
theorem fits2 : Tryz.pinned.checked.prog.listedFits [("unicode/utf8.acceptRanges", Rows.laid_unicode_utf8_acceptRanges), ("unicode.White_Space", Rows.laid_unicode_White_Space), ("strings.asciiSpace", Rows.laid_strings_asciiSpace), ("manyhands/escape.pairs", Rows.laid_manyhands_escape_pairs), ("manyhands/link.schemes", Rows.laid_manyhands_link_schemes), ("manyhands/export.blockNames", Rows.laid_manyhands_export_blockNames), ("manyhands/export.markNames", Rows.laid_manyhands_export_markNames), ("manyhands/sanitize.blockNames", Rows.laid_manyhands_sanitize_blockNames), ("manyhands/sanitize.hidingNames", Rows.laid_manyhands_sanitize_hidingNames), ("unicode/utf8.first", Rows.laid_unicode_utf8_first)] = true := by
  unfold Program.listedFits
  rw [noOwnUnsafe]
  kernel_rfl
theorem tie2 : Tryz.prog.laidByTextLater [("unicode/utf8.acceptRanges", Rows.laid_unicode_utf8_acceptRanges), ("unicode.White_Space", Rows.laid_unicode_White_Space), ("strings.asciiSpace", Rows.laid_strings_asciiSpace), ("manyhands/escape.pairs", Rows.laid_manyhands_escape_pairs), ("manyhands/link.schemes", Rows.laid_manyhands_link_schemes), ("manyhands/export.blockNames", Rows.laid_manyhands_export_blockNames), ("manyhands/export.markNames", Rows.laid_manyhands_export_markNames), ("manyhands/sanitize.blockNames", Rows.laid_manyhands_sanitize_blockNames), ("manyhands/sanitize.hidingNames", Rows.laid_manyhands_sanitize_hidingNames)] [.data, .listed, .data, .data, .data, .data, .data, .data, .data] true :=
  Program.laidByTextLater.sub seatTie2 ["unicode/utf8.acceptRanges", "unicode.White_Space", "strings.asciiSpace", "manyhands/escape.pairs", "manyhands/link.schemes", "manyhands/export.blockNames", "manyhands/export.markNames", "manyhands/sanitize.blockNames", "manyhands/sanitize.hidingNames"] (by kernel_rfl) (by kernel_rfl)
theorem sanitizeSays_row_tie : Rows.sanitizeSaysRow.laidByTextAt .later Tryz.pinned [.data, .listed, .data, .data, .data, .data, .data, .data, .data, .pinned] true :=
  OpenClaim.laidByTextAt_pinned rfl rfl tie2 rfl rfl rfl rfl (fun y hy _e => by
    simp only [Rows.sanitizeSaysRow, List.zip_cons_cons, List.zip_nil_right, List.mem_cons, List.mem_nil_iff, or_false] at hy
    rcases hy with rfl | rfl | rfl | rfl | rfl | rfl | rfl | rfl | rfl | rfl
    · cases _e
    · cases _e
    · cases _e
    · cases _e
    · cases _e
    · cases _e
    · cases _e
    · cases _e
    · cases _e
    · exact ⟨pin_laid_unicode_utf8_first, by kernel_rfl⟩) fits2
theorem fits3 : Tryz.pinned.checked.prog.listedFits [("unicode/utf8.acceptRanges", Rows.laid_unicode_utf8_acceptRanges), ("manyhands/escape.pairs", Rows.laid_manyhands_escape_pairs), ("manyhands/link.schemes", Rows.laid_manyhands_link_schemes), ("manyhands/export.blockNames", Rows.laid_manyhands_export_blockNames), ("manyhands/export.markNames", Rows.laid_manyhands_export_markNames), ("manyhands/sanitize.blockNames", Rows.laid_manyhands_sanitize_blockNames), ("manyhands/sanitize.hidingNames", Rows.laid_manyhands_sanitize_hidingNames), ("unicode/utf8.first", Rows.laid_unicode_utf8_first)] = true := by
  unfold Program.listedFits
  rw [noOwnUnsafe]
  kernel_rfl
theorem tie3 : Tryz.prog.laidByTextLater [("unicode/utf8.acceptRanges", Rows.laid_unicode_utf8_acceptRanges), ("manyhands/escape.pairs", Rows.laid_manyhands_escape_pairs), ("manyhands/link.schemes", Rows.laid_manyhands_link_schemes), ("manyhands/export.blockNames", Rows.laid_manyhands_export_blockNames), ("manyhands/export.markNames", Rows.laid_manyhands_export_markNames), ("manyhands/sanitize.blockNames", Rows.laid_manyhands_sanitize_blockNames), ("manyhands/sanitize.hidingNames", Rows.laid_manyhands_sanitize_hidingNames)] [.data, .data, .data, .data, .data, .data, .data] true :=
  Program.laidByTextLater.sub seatTie1 ["unicode/utf8.acceptRanges", "manyhands/escape.pairs", "manyhands/link.schemes", "manyhands/export.blockNames", "manyhands/export.markNames", "manyhands/sanitize.blockNames", "manyhands/sanitize.hidingNames"] (by kernel_rfl) (by kernel_rfl)
theorem sanitizeBack_row_tie : Rows.sanitizeBackRow.laidByTextAt .later Tryz.pinned [.data, .data, .data, .data, .data, .data, .data, .pinned] true :=
  OpenClaim.laidByTextAt_pinned rfl rfl tie3 rfl rfl rfl rfl (fun y hy _e => by
    simp only [Rows.sanitizeBackRow, List.zip_cons_cons, List.zip_nil_right, List.mem_cons, List.mem_nil_iff, or_false] at hy
    rcases hy with rfl | rfl | rfl | rfl | rfl | rfl | rfl | rfl
    · cases _e
    · cases _e
    · cases _e
    · cases _e
    · cases _e
    · cases _e
    · cases _e
    · exact ⟨pin_laid_unicode_utf8_first, by kernel_rfl⟩) fits3
theorem sanitizeHides_row_tie : Rows.sanitizeHidesRow.laidByTextAt .later Tryz.pinned [.data, .data, .data, .data, .data, .data, .data, .pinned] true :=
  OpenClaim.laidByTextAt_pinned rfl rfl tie3 rfl rfl rfl rfl (fun y hy _e => by
    simp only [Rows.sanitizeHidesRow, List.zip_cons_cons, List.zip_nil_right, List.mem_cons, List.mem_nil_iff, or_false] at hy
    rcases hy with rfl | rfl | rfl | rfl | rfl | rfl | rfl | rfl
    · cases _e
    · cases _e
    · cases _e
    · cases _e
    · cases _e
    · cases _e
    · cases _e
    · exact ⟨pin_laid_unicode_utf8_first, by kernel_rfl⟩) fits3
theorem sanitizeText_row_tie : Rows.sanitizeTextRow.laidByTextAt .later Tryz.pinned [.data, .data, .data, .data, .data, .data, .data, .pinned] true :=
  OpenClaim.laidByTextAt_pinned rfl rfl tie3 rfl rfl rfl rfl (fun y hy _e => by
    simp only [Rows.sanitizeTextRow, List.zip_cons_cons, List.zip_nil_right, List.mem_cons, List.mem_nil_iff, or_false] at hy
    rcases hy with rfl | rfl | rfl | rfl | rfl | rfl | rfl | rfl
    · cases _e
    · cases _e
    · cases _e
    · cases _e
    · cases _e
    · cases _e
    · cases _e
    · exact ⟨pin_laid_unicode_utf8_first, by kernel_rfl⟩) fits3
theorem tokenSaysUpto_row_tie : Rows.tokenSaysUptoRow.laidByTextAt .later Tryz.pinned [.data] true :=
  OpenClaim.laidByTextAt_later rfl rfl tie noOwnUnsafe
theorem sanitizeSaysUpto_row_tie : Rows.sanitizeSaysUptoRow.laidByTextAt .later Tryz.pinned [.data, .listed, .data, .data, .data, .data, .data, .data, .data, .pinned] true :=
  OpenClaim.laidByTextAt_pinned rfl rfl tie2 rfl rfl rfl rfl (fun y hy _e => by
    simp only [Rows.sanitizeSaysUptoRow, List.zip_cons_cons, List.zip_nil_right, List.mem_cons, List.mem_nil_iff, or_false] at hy
    rcases hy with rfl | rfl | rfl | rfl | rfl | rfl | rfl | rfl | rfl | rfl
    · cases _e
    · cases _e
    · cases _e
    · cases _e
    · cases _e
    · cases _e
    · cases _e
    · cases _e
    · cases _e
    · exact ⟨pin_laid_unicode_utf8_first, by kernel_rfl⟩) fits2
theorem sanitizeBackUpto_row_tie : Rows.sanitizeBackUptoRow.laidByTextAt .later Tryz.pinned [.data, .data, .data, .data, .data, .data, .data, .pinned] true :=
  OpenClaim.laidByTextAt_pinned rfl rfl tie3 rfl rfl rfl rfl (fun y hy _e => by
    simp only [Rows.sanitizeBackUptoRow, List.zip_cons_cons, List.zip_nil_right, List.mem_cons, List.mem_nil_iff, or_false] at hy
    rcases hy with rfl | rfl | rfl | rfl | rfl | rfl | rfl | rfl
    · cases _e
    · cases _e
    · cases _e
    · cases _e
    · cases _e
    · cases _e
    · cases _e
    · exact ⟨pin_laid_unicode_utf8_first, by kernel_rfl⟩) fits3
theorem sanitizeHidesUpto_row_tie : Rows.sanitizeHidesUptoRow.laidByTextAt .later Tryz.pinned [.data, .data, .data, .data, .data, .data, .data, .pinned] true :=
  OpenClaim.laidByTextAt_pinned rfl rfl tie3 rfl rfl rfl rfl (fun y hy _e => by
    simp only [Rows.sanitizeHidesUptoRow, List.zip_cons_cons, List.zip_nil_right, List.mem_cons, List.mem_nil_iff, or_false] at hy
    rcases hy with rfl | rfl | rfl | rfl | rfl | rfl | rfl | rfl
    · cases _e
    · cases _e
    · cases _e
    · cases _e
    · cases _e
    · cases _e
    · cases _e
    · exact ⟨pin_laid_unicode_utf8_first, by kernel_rfl⟩) fits3
theorem sanitizeTextUpto_row_tie : Rows.sanitizeTextUptoRow.laidByTextAt .later Tryz.pinned [.data, .data, .data, .data, .data, .data, .data, .pinned] true :=
  OpenClaim.laidByTextAt_pinned rfl rfl tie3 rfl rfl rfl rfl (fun y hy _e => by
    simp only [Rows.sanitizeTextUptoRow, List.zip_cons_cons, List.zip_nil_right, List.mem_cons, List.mem_nil_iff, or_false] at hy
    rcases hy with rfl | rfl | rfl | rfl | rfl | rfl | rfl | rfl
    · cases _e
    · cases _e
    · cases _e
    · cases _e
    · cases _e
    · cases _e
    · cases _e
    · exact ⟨pin_laid_unicode_utf8_first, by kernel_rfl⟩) fits3
end Go.Proofs.YtpcaiechaakhnabGreatDoor
