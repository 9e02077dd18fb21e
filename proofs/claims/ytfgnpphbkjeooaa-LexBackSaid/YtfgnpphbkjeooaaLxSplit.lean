/- Layer 47: lex.Split. -/
import Derived.Test.YtfgnpphbkjeooaaLxSign
import Derived.Test.YtfgnpphbkjeooaaGridOwn
import Derived.Handy
namespace Go.Proofs.Ytfgnpphbkjeooaa
open Go.RowKit
set_option linter.unusedSimpArgs false
set_option linter.unusedVariables false
def tkV (N : List LX.Tk) : List Value := N.flatMap fun x => [.int .i64 (x.kind : Int), .int .i64 (x.line : Int), .string ⟨x.text.toArray⟩]
theorem tkV_len (N : List LX.Tk) : (tkV N).length = N.length * 3 := by
  induction N with
  | nil => rfl
  | cons x t ih =>
    show (_ ++ tkV t).length = _
    rw [List.length_append, ih]; simp; omega
theorem tkV_snoc (N : List LX.Tk) (x : LX.Tk) : tkV (N ++ [x]) = tkV N ++ [.int .i64 (x.kind : Int), .int .i64 (x.line : Int), .string ⟨x.text.toArray⟩] := by simp [tkV]
theorem ten_iff (x : UInt8) : ((x.toNat : Nat) : Int) = 10 ↔ x = 10 := by
  constructor
  · intro h
    have h1 : x.toNat = 10 := by omega
    exact UInt8.toNat_inj.1 h1
  · intro h; rw [h]; rfl
theorem signE_in (l : List UInt8) (k : Nat) (hk : k < l.length) : k ≤ LX.signE l k ∧ LX.signE l k ≤ l.length := by
  unfold LX.signE
  split
  · rename_i h
    unfold LX.pairB at h
    rw [Bool.and_eq_true] at h
    have := of_decide_eq_true h.1
    omega
  · split <;> omega
def SplitQ (l : List UInt8) (w : World) (e : Ending) (w' : World) : Prop :=
  Below w.heap.size w w' ∧ ((∃ ln : Nat, LX.T l l.length 0 1 [] = (none, ln) ∧ e = .returned (.tuple #[.slice none 0 0, .int .i64 (ln : Int)])) ∨ (∃ out u, LX.T l l.length 0 1 [] = (some out, 0) ∧ e = .returned (.tuple #[u, .int .i64 0]) ∧ out.length ≤ l.length ∧ w'.ownsRow w.heap.size 29 3 u out.length (tkV out)))
theorem src_newT (w : World) (C : List Value) (t : TypeId) {b : Nat} (hb : w.heap.size = b) : Src (w.alloc (.cells C.toArray t)) (.slice (some ⟨b, 0, none⟩) 1 1) 1 C := by subst hb; exact src_new w C t
set_option maxRecDepth 100000 in
set_option maxHeartbeats 8000000 in
theorem lex_Split (l : List UInt8) (w : World) (hl : l.length ≤ 3000) (hm : MaxL w) : Calls Try.prog 6 #[.string ⟨l.toArray⟩] w (SplitQ l w) := by
  obtain ⟨i4, hi4, hz4, hsize4, hby4⟩ : ∃ i, Try.prog.info? 29 = some i ∧ i.zero = some (.agg #[.int .i64 0, .int .i64 0, .string ⟨#[]⟩]) ∧ i.size = 3 ∧ i.bytes = 32 := ⟨(Try.prog.info? 29).get!, by kernel_rfl, by kernel_rfl, by kernel_rfl, by kernel_rfl⟩
  have HIx := Lib.hid (fun (k : Nat) (h : k < l.length) W => idx_atI (P := Try.prog) (t := 9) Try.underlying9 W h)
  have HSl := Lib.hid (fun (a b : Nat) (hab : a ≤ b) (hb : b ≤ l.length) W => slice_atI l a b W hab hb)
  have HBl := Lib.hid (fun (k : Nat) W => lex_is LX.blanks (l.getD k 0) W)
  have HWd := Lib.hid (fun (k : Nat) (h : k < l.length) W => lex_word l k W (by omega) hl)
  have HSg := Lib.hid (fun (k : Nat) (h : k < l.length) W (hb : Below w.heap.size w W) => lex_sign l k W h hl (hm.below hb))
  have HQn := Lib.hid (fun (w' : World) (ln : Nat) (h1 : Below w.heap.size w w') (h2 : LX.T l l.length 0 1 [] = (none, ln)) => (show SplitQ l w (.returned (.tuple #[.slice none 0 0, .int .i64 (ln : Int)])) w' from ⟨h1, Or.inl ⟨ln, h2, rfl⟩⟩))
  have HQs := Lib.hid (fun (w' : World) (out : List LX.Tk) (u : Value) (h1 : Below w.heap.size w w') (h2 : LX.T l l.length 0 1 [] = (some out, 0)) (h3 : out.length ≤ l.length) (h4 : w'.ownsRow w.heap.size 29 3 u out.length (tkV out)) => (show SplitQ l w (.returned (.tuple #[u, .int .i64 0])) w' from ⟨h1, Or.inr ⟨out, u, h2, rfl, h3, h4⟩⟩))
  obtain ⟨R, hR⟩ : ∃ R, LX.T l l.length 0 1 [] = R := ⟨_, rfl⟩
  have HR := Lib.hid hR
  obtain ⟨N, hN⟩ : ∃ N, l.length = N := ⟨_, rfl⟩
  have HN := Lib.hid hN
  have hlen : (⟨l.toArray⟩ : ByteArray).size = N := by rw [← hN]; exact List.size_toArray
  obtain ⟨S, hS⟩ : ∃ S : ByteArray, (⟨l.toArray⟩ : ByteArray) = S := ⟨_, rfl⟩
  rw [hS] at hlen HIx HSl HWd HSg ⊢
  rw [hN] at hl
  clear hR hN hS hm
  go_enter Try.func6, Try.ntmps6
  go_wp2_with fail
  go_loopw [4, 5, 6] (fun oo ll jj wr => ∃ (k ln f : Nat) (out : List LX.Tk), jj = .int .i64 k ∧ ll = .int .i64 ln ∧ k ≤ N ∧ ln ≤ k + 1 ∧ Hid (LX.T l f k ln out = R ∧ N - k ≤ f ∧ out.length ≤ k) ∧ Hid (wr.ownsRow w.heap.size 29 3 oo out.length (tkV out)) ∧ Hid (Below w.heap.size w wr)) (fun _ _ jj _ => N - (intOf jj).toNat)
  case atStart => exact ⟨0, 1, l.length, [], rfl, rfl, Nat.zero_le _, Nat.le_refl _, Lib.hid ⟨HR.out, by rw [HN.out]; omega, Nat.le_refl _⟩, Lib.hid (World.ownsRow_nil _ _ _ _), Lib.hid (Below.refl _ _)⟩
  case round =>
    obtain ⟨k, ln, f, out, rfl, rfl, hk, hln, hT, hO, hB⟩ := hrel
    rename World => W1
    by_cases hlt : k < N
    case neg =>
      obtain rfl : N = k := by omega
      have q1 : ((N : Int) < (N : Int)) = False := eq_false (by omega)
      have q1' : (N < N) = False := eq_false (by omega)
      have HRs := Lib.hid (show R = (some out, 0) by
        rw [← hT.out.1]
        cases f with
        | zero => rfl
        | succ f => unfold LX.T; rw [if_neg (by rw [HN.out]; omega)])
      have HOO := hO
      have HBB := hB
      have HLe := Lib.hid hT.out.2.2
      clear hT hO hB hlt hk hln
      go_wp2_with fail
      go_returns
      exact HQs.out _ out _ HBB.out (HR.out.trans HRs.out) (by rw [HN.out]; exact HLe.out) HOO.out
    have q1 : ((k : Int) < (N : Int)) = True := eq_true (by omega)
    have q1' : (k < N) = True := eq_true hlt
    have hk62 : k ≤ 9223372036854775806 := by omega
    have hl62 : ln ≤ 9223372036854775806 := by omega
    have HK := Lib.hid (And.intro hlt hln)
    have hi1 := HIx.out k (by rw [HN.out]; exact hlt)
    obtain ⟨f, rfl⟩ : ∃ g, f = g + 1 := ⟨f - 1, by have := hT.out.2.1; omega⟩
    have HT := Lib.hid (show (if LX.blanks.contains (l.getD k 0) = true then LX.T l f (k + 1) (if l.getD k 0 = 10 then ln + 1 else ln) out
      else if LX.wordE l k = k then
        if LX.signE l k = k then (none, ln) else LX.T l f (LX.signE l k) ln (out ++ [⟨2, ln, LX.cut l k (LX.signE l k)⟩])
      else LX.T l f (LX.wordE l k) ln (out ++ [⟨1, ln, LX.cut l k (LX.wordE l k)⟩])) = R by
      have h := hT.out.1
      unfold LX.T at h
      rwa [if_pos (by rw [HN.out]; exact hlt)] at h)
    have HF := Lib.hid hT.out.2
    have HBk := Lib.hid (HBl.out k)
    have HOO := hO
    have HBB := hB
    have HTn := Lib.hid (ten_iff (l.getD k 0))
    obtain ⟨c, hc⟩ : ∃ c, l.getD k 0 = c := ⟨_, rfl⟩
    rw [hc] at hi1 HT HBk HTn
    have hWk := HWd.out k (by rw [HN.out]; exact hlt)
    have hSk := HSg.out k (by rw [HN.out]; exact hlt)
    cases hb : LX.blanks.contains c
    case true =>
      rw [hb] at HBk HT
      have HU := Lib.hid (show LX.T l f (k + 1) (if c = 10 then ln + 1 else ln) out = R from (by have h := HT.out; rwa [if_pos rfl] at h))
      clear HT
      by_cases h10 : c = 10
      · have q2 : (((c.toNat : Nat) : Int) == 10) = true := by simpa using HTn.out.2 h10
        have HV := Lib.hid (show LX.T l f (k + 1) (ln + 1) out = R by have h := HU.out; rwa [if_pos h10] at h)
        clear hT hO hB hlt hk hln hc hb h10 hWk hSk HU
        generalize ((c.toNat : Nat) : Int) = cn at *
        go_wp2_with fail
        refine (HBk.out _).mono ?_; rintro e w1 ⟨rfl, rfl⟩
        go_wp2_with fail
        go_roundw
        case rel => exact ⟨k + 1, ln + 1, f, out, by simp, by simp, by have := HK.out; omega, by have := HK.out; omega, Lib.hid ⟨HV.out, by have := HF.out; omega, by have := HF.out; omega⟩, HOO, HBB⟩
        case measure => have := HK.out; first | (simp [intOf]; done) | (simp [intOf]; omega)
      · have q2 : (((c.toNat : Nat) : Int) == 10) = false := by simpa using fun h => h10 (HTn.out.1 h)
        have HV := Lib.hid (show LX.T l f (k + 1) ln out = R by have h := HU.out; rwa [if_neg h10] at h)
        clear hT hO hB hlt hk hln hc hb h10 hWk hSk HU
        generalize ((c.toNat : Nat) : Int) = cn at *
        go_wp2_with fail
        refine (HBk.out _).mono ?_; rintro e w1 ⟨rfl, rfl⟩
        go_wp2_with fail
        go_roundw
        case rel => exact ⟨k + 1, ln, f, out, by simp, rfl, by have := HK.out; omega, by have := HK.out; omega, Lib.hid ⟨HV.out, by have := HF.out; omega, by have := HF.out; omega⟩, HOO, HBB⟩
        case measure => have := HK.out; first | (simp [intOf]; done) | (simp [intOf]; omega)
    rw [hb] at HBk HT
    clear hT hO hB hlt hk hln hc hb
    go_wp2_with fail
    refine (HBk.out _).mono ?_; rintro e w1 ⟨rfl, rfl⟩
    have HT0 := Lib.hid (by have h := HT.out; rwa [if_neg (by simp)] at h : (if LX.wordE l k = k then
        if LX.signE l k = k then (none, ln) else LX.T l f (LX.signE l k) ln (out ++ [⟨2, ln, LX.cut l k (LX.signE l k)⟩])
      else LX.T l f (LX.wordE l k) ln (out ++ [⟨1, ln, LX.cut l k (LX.wordE l k)⟩])) = R)
    have hwge : k ≤ LX.wordE l k := LX.runF_ge l k _ k
    have hwle : LX.wordE l k ≤ N := by rw [← HN.out]; exact LX.runF_le l k _ k (by rw [HN.out]; exact Nat.le_of_lt HK.out.1)
    have hsg := signE_in l k (by rw [HN.out]; exact HK.out.1)
    rw [HN.out] at hsg
    obtain ⟨E, hE⟩ : ∃ E, LX.wordE l k = E := ⟨_, rfl⟩
    obtain ⟨G, hG⟩ : ∃ G, LX.signE l k = G := ⟨_, rfl⟩
    rw [hE] at HT0 hWk hwge hwle
    rw [hG] at HT0 hSk hsg
    have hSk := Lib.hid hSk
    have hWk := Lib.hid hWk
    clear hE hG HT
    go_wp2_with fail
    refine (hWk.out _).mono ?_; rintro e w2 ⟨rfl, hb2⟩
    have HB2 := Lib.hid hb2
    clear hb2
    by_cases he : E = k
    case neg =>
      have q3 : ((E : Int) == (k : Int)) = false := by simp; omega
      have q3' : (E == k) = false := by simpa using he
      have HT1 := Lib.hid (by have h := HT0.out; rwa [if_neg he] at h : LX.T l f E ln (out ++ [⟨1, ln, LX.cut l k E⟩]) = R)
      have hlt2 : k < E := by omega
      have hle2 := hwle
      clear hwge hwle hsg he HT0
      obtain ⟨m, hmm⟩ : ∃ m, out.length = m := ⟨_, rfl⟩
      have HM := Lib.hid hmm
      rw [hmm] at HOO HF
      have HK2 := Lib.hid (And.intro hlt2 hle2)
      have hsl := HSl.out k E (by omega) (by rw [HN.out]; exact hle2)
      have hm1000 : m ≤ 3000 := by have := HF.out.2; have := HK.out.1; omega
      have HM3 := Lib.hid hm1000
      have q5 : ((k : Int) ≤ (E : Int)) = True := eq_true (by omega)
      clear hmm hlt2 hle2
      go_wp2_with (first | (at_builtin; go_loud (refine wpList_append_src rfl (.tmp 38) (.tmp 46) 23 rfl w.heap.size 29 i4 _ 3 32 Try.underlying23 hi4 hz4 hsize4 hby4 rfl (by omega) _ m _ rfl (owns_below HOO.out (HB2.out.alloc HB2.out.size _)) _ 1 [.int .i64 1, .int .i64 (ln : Int), .string ⟨(LX.cut l k E).toArray⟩] rfl (src_newT _ _ _ (by simp)) rfl (by intro u hu; simp at hu; rcases hu with rfl | rfl | rfl <;> rfl) (by have := HM3.out; unfold maxLen; omega) (by have := HM3.out; omega) (by have h1 := HBB.out.size; have h2 := HB2.out.size; simp; omega) ?_; intro v5 w5 hO5 hG5; have HO5 := Lib.hid hO5; have HB5 := Lib.hid (grown3 ((HBB.out.trans (HB2.out.mono HBB.out.size)).alloc (by have h1 := HBB.out.size; have h2 := HB2.out.size; omega) _) (by have h1 := HBB.out.size; have h2 := HB2.out.size; simp; omega) (owns_below HOO.out (HB2.out.alloc HB2.out.size _)) hG5); clear hO5 hG5)) | fail)
      go_roundw
      case rel => exact ⟨E, ln, f, out ++ [⟨1, ln, LX.cut l k E⟩], rfl, rfl, by have := HK2.out; omega, by have := HK.out; have := HK2.out; omega, Lib.hid ⟨HT1.out, by have := HF.out; have := HK2.out; omega, by rw [List.length_append, HM.out]; have := HF.out; have := HK2.out; simp; omega⟩, Lib.hid (by rw [tkV_snoc, List.length_append, HM.out]; exact HO5.out), HB5⟩
      case measure => have := HK.out; have := HK2.out; first | (simp [intOf]; done) | (simp [intOf]; omega)
    have q3 : ((E : Int) == (k : Int)) = true := by simp; omega
    have q3' : (E == k) = true := by simpa using he
    have HT1 := Lib.hid (by have h := HT0.out; rwa [if_pos he] at h : (if G = k then (none, ln) else LX.T l f G ln (out ++ [⟨2, ln, LX.cut l k G⟩])) = R)
    clear hwge hwle he HT0
    go_wp2_with fail
    refine (hSk.out _ (HBB.out.trans (HB2.out.mono HBB.out.size))).mono ?_; rintro e w3 ⟨rfl, rfl⟩
    by_cases hg : G = k
    · have q4 : ((G : Int) == (k : Int)) = true := by simp; omega
      have q4' : (G == k) = true := by simpa using hg
      have HT2 := Lib.hid (by have h := HT1.out; rwa [if_pos hg] at h : (none, ln) = R)
      clear hsg hg HT1
      go_wp2_with fail
      go_returns
      exact HQn.out _ ln (HBB.out.trans (HB2.out.mono HBB.out.size)) (HR.out.trans HT2.out.symm)
    · have q4 : ((G : Int) == (k : Int)) = false := by simp; omega
      have q4' : (G == k) = false := by simpa using hg
      have HT2 := Lib.hid (by have h := HT1.out; rwa [if_neg hg] at h : LX.T l f G ln (out ++ [⟨2, ln, LX.cut l k G⟩]) = R)
      have hlt2 : k < G := by omega
      have hle2 := hsg.2
      clear hsg hg HT1
      obtain ⟨m, hmm⟩ : ∃ m, out.length = m := ⟨_, rfl⟩
      have HM := Lib.hid hmm
      rw [hmm] at HOO HF
      have HK2 := Lib.hid (And.intro hlt2 hle2)
      have hsl := HSl.out k G (by omega) (by rw [HN.out]; exact hle2)
      have hm1000 : m ≤ 3000 := by have := HF.out.2; have := HK.out.1; omega
      have HM3 := Lib.hid hm1000
      have q5 : ((k : Int) ≤ (G : Int)) = True := eq_true (by omega)
      clear hmm hlt2 hle2
      go_wp2_with (first | (at_builtin; go_loud (refine wpList_append_src rfl (.tmp 38) (.tmp 46) 23 rfl w.heap.size 29 i4 _ 3 32 Try.underlying23 hi4 hz4 hsize4 hby4 rfl (by omega) _ m _ rfl (owns_below HOO.out (HB2.out.alloc HB2.out.size _)) _ 1 [.int .i64 2, .int .i64 (ln : Int), .string ⟨(LX.cut l k G).toArray⟩] rfl (src_newT _ _ _ (by simp)) rfl (by intro u hu; simp at hu; rcases hu with rfl | rfl | rfl <;> rfl) (by have := HM3.out; unfold maxLen; omega) (by have := HM3.out; omega) (by have h1 := HBB.out.size; have h2 := HB2.out.size; simp; omega) ?_; intro v5 w5 hO5 hG5; have HO5 := Lib.hid hO5; have HB5 := Lib.hid (grown3 ((HBB.out.trans (HB2.out.mono HBB.out.size)).alloc (by have h1 := HBB.out.size; have h2 := HB2.out.size; omega) _) (by have h1 := HBB.out.size; have h2 := HB2.out.size; simp; omega) (owns_below HOO.out (HB2.out.alloc HB2.out.size _)) hG5); clear hO5 hG5)) | fail)
      go_roundw
      case rel => exact ⟨G, ln, f, out ++ [⟨2, ln, LX.cut l k G⟩], rfl, rfl, by have := HK2.out; omega, by have := HK.out; have := HK2.out; omega, Lib.hid ⟨HT2.out, by have := HF.out; have := HK2.out; omega, by rw [List.length_append, HM.out]; have := HF.out; have := HK2.out; simp; omega⟩, Lib.hid (by rw [tkV_snoc, List.length_append, HM.out]; exact HO5.out), HB5⟩
      case measure => have := HK.out; have := HK2.out; first | (simp [intOf]; done) | (simp [intOf]; omega)
end Go.Proofs.Ytfgnpphbkjeooaa
