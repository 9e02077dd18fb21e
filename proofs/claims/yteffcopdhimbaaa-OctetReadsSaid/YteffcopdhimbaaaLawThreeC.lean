/- Layer 3: the walk of OctetReads. -/
import Derived.Test.YteffcopdhimbaaaReadsA
import Derived.Test.YteffcopdhimbaaaReadsB
import Derived.Test.YteffcopdhimbaaaReadsC
import Derived.Test.YteffcopdhimbaaaOwn
import Derived.Test.YteffcopdhimbaaaPgm
namespace Go.Proofs.Yteffcopdhimbaaa
open Go.RowKit
set_option linter.unusedSimpArgs false
set_option linter.unusedVariables false
theorem rf_new2 {w : World} {v : Value} {L : List UInt8} {C g q : Nat} (hv : w.ownsRow C 5 1 v L.length (bytesV L)) (hL : L.length ≤ 100000000) (hg : g < C) (hq : q < C) (hC : C ≤ w.heap.size) : ∃ q2, RfAt (w.alloc (.cells #[v, .int .i64 0, .bool false] 32)) w.heap.size q2 L 0 false ∧ (g ≠ w.heap.size ∧ g ≠ q2 ∧ q ≠ w.heap.size) := by
  have hr : RowAt w v L.length (byteV L) := RowAt.owns hv (fun i hi => byteV_at hi)
  have hv2 := hr.below ((Below.refl _ _).alloc (Nat.le_refl _) (.cells #[v, .int .i64 0, .bool false] 32))
  have hgg := heap_alloc_new w (.cells #[v, .int .i64 0, .bool false] 32)
  rcases hv.2 with ⟨rfl, h0⟩ | ⟨b, cap, cur, rfl, hb, h1, _⟩
  · exact ⟨w.heap.size + 1, ⟨_, hgg, by simpa using hv2, (fun a n c h hn => by cases h), by omega, Nat.zero_le _, hL⟩, by omega, by omega, by omega⟩
  · have hlt : b < w.heap.size := by
      by_cases hgl : b < w.heap.size
      · exact hgl
      · rw [Array.getElem?_eq_none (Nat.le_of_not_lt hgl)] at h1; cases h1
    exact ⟨b, ⟨_, hgg, by simpa using hv2, (fun a n c h hn => by injection h with h; injection h with h; rw [← h]), by omega, Nat.zero_le _, hL⟩, by omega, by omega, by omega⟩
theorem rNum_wrap (L : List UInt8) (z : Int) (n : Nat) (b : Bool) : ∃ N : Nat, near8 z = N ∧ N ≤ 8 := by
  refine ⟨(near8 z).toNat, ?_, ?_⟩ <;> unfold near8 <;> omega
theorem reader_Take_nil (z : Int) (w : World) :
    Calls Try.prog 14 #[.pointer none, .int .i64 z] w fun e w' => ∃ a c, e = .returned (.slice a 0 c) ∧ Below w.heap.size w w' := by
  go_enter Try.func14, Try.ntmps14
  go_wp2_with fail
  refine (next_nil _ _).mono ?_; rintro e w1 ⟨rfl, rfl⟩
  go_wp2_with fail
  rw [show Value.int IntKind.i64 0 = Value.int IntKind.i64 ((0 : Nat) : Int) from rfl]
  refine (octet_grown (.slice none 0 0) [] 0 _ (Or.inl ⟨none, 0, rfl, rfl, fun _ => rfl⟩) (by simp)).mono ?_; rintro e w2 ⟨rfl, hO, hb⟩
  clear hO
  go_wp2_with fail
  go_ret
  exact ⟨_, _, rfl, hb⟩
theorem reader_Text_nil (w : World) :
    Calls Try.prog 16 #[.pointer none] w fun e w' => e = .returned (.string ⟨#[]⟩) ∧ w = w' := by
  have hcv := conv_row (P := Try.prog) (src := 22) (dst := 9) (e := 5) Try.underlying22 Try.underlying5 Try.underlying9 (w := w) (l := []) (v := .slice none 0 0) (Or.inl ⟨none, 0, rfl, rfl, fun _ => rfl⟩)
  go_enter Try.func16, Try.ntmps16
  go_wp2_with fail
  refine (reader_Num_nil _ _).mono ?_; rintro e w1 ⟨rfl, rfl⟩
  go_wp2_with fail
  refine (next_nil _ _).mono ?_; rintro e w1 ⟨rfl, rfl⟩
  go_wp2_with fail
  go_ret
  exact ⟨rfl, rfl⟩
set_option maxRecDepth 100000 in
set_option maxHeartbeats 4000000 in
theorem octetReads_walk (v : Value) (B : List UInt8) (lv : Value) (A : List (Int × Int)) (w : World) (hv : RowAt w v B.length (byteV B)) (hl : RowR 2 constR w lv A) :
    Calls Try.prog 4 #[v, lv] w fun e w' => e = .returned (.bool true) ∧ Below w.heap.size w w' := by
  have hvl := hv.le
  have hll := hl.len
  obtain ⟨av, cv, hvv⟩ : ∃ a c, v = .slice a B.length c := by
    rcases hv with ⟨a, cap, rfl, h0, _⟩ | ⟨b, off, cap, rfl, _⟩
    · exact ⟨a, cap, by rw [h0]⟩
    · exact ⟨_, cap, rfl⟩
  obtain ⟨sa, sc, rfl⟩ := row_get hl
  obtain ⟨M, hM⟩ : ∃ M, B.length = M := ⟨_, rfl⟩
  obtain ⟨N, hN⟩ : ∃ N, A.length = N := ⟨_, rfl⟩
  rw [hM] at hvl hvv
  rw [hN] at hl hll ⊢
  subst hvv
  by_cases h1 : M ≤ 400
  · by_cases h2 : N ≤ 50
    · have q1 : (400 < (M : Int)) = False := eq_false (by omega)
      have q2 : (50 < (N : Int)) = False := eq_false (by omega)
      obtain ⟨i, hi, hz, hsize, hby⟩ : ∃ i, Try.prog.info? 5 = some i ∧ i.zero = some (.int .u8 0) ∧ i.size = 1 ∧ i.bytes = 1 := ⟨(Try.prog.info? 5).get!, by kernel_rfl, by kernel_rfl, by kernel_rfl, by kernel_rfl⟩
      have HVH := Lib.hid (fun W (hW : Below w.heap.size w W) => hv.below hW)
      have HM := Lib.hid hM
      go_enter Try.func4, Try.ntmps4
      go_wp2_with fail
      refine (rd_New _ B _ hv (by omega)).mono ?_; rintro e w1 ⟨g, q, rfl, hR, hg, ⟨hq, hqg⟩, hb⟩
      have hz1 := hb.size
      have hgl := rd_lt hR
      have HR0 := Lib.hid hR
      have HB1 := Lib.hid hb
      clear hR hb hv
      go_wp2_with (first | (at_builtin; refine wpList_append_row1 rfl (.tmp 21) (.tmp 22) 22 rfl w1.heap.size 5 i (.int .u8 0) 1 Try.underlying22 hi hz hsize hby rfl _ 0 [] rfl (World.ownsRow_lit w1 #[] 0 (Nat.le_refl _) (by unfold maxLen; omega) rfl) _ B.length (byteV B) rfl (HVH.out _ (HB1.out.alloc hz1 _)) (fun _ _ => rfl) (by unfold maxLen; have := HM.out; omega) (by have := HM.out; omega) (by rw [World.size_alloc]; omega) ?_; intro v3 w3 hO3 hG3; have hO3 : w3.ownsRow w1.heap.size 5 1 v3 B.length (bytesV B) := (by rw [map_byteV, List.nil_append, Nat.zero_add] at hO3; exact hO3); obtain ⟨a3, c3, rfl⟩ := owns_form hO3; have HO3 := Lib.hid hO3; have HB3 := Lib.hid (show Below w1.heap.size w1 w3 from below_grown ((Below.refl _ _).alloc (Nat.le_refl _) _) (Nat.le_refl _) (by rw [World.size_alloc]; omega) hG3); have hz3 := HB3.out.size; clear hO3 hG3) | fail)
      have hle : B.length = M := HM.out
      obtain ⟨q2, hF, hgq⟩ := rf_new2 (g := g) (q := q) HO3.out (by omega) hgl (by omega) hz3
      rw [hle] at hF
      have hB3 : Below w.heap.size w (w3.alloc (.cells #[.slice a3 M c3, .int .i64 0, .bool false] 32)) := (HB1.out.trans (HB3.out.mono hz1)).alloc (Nat.le_trans hz1 hz3) _
      have hR3 := Lib.hid (rd_below (rd_below HR0.out HB3.out) ((Below.refl _ _).alloc (Nat.le_refl _) (.cells #[.slice a3 M c3, .int .i64 0, .bool false] 32)))
      have hg2 : w.heap.size ≤ w3.heap.size := Nat.le_trans hz1 hz3
      obtain ⟨W3, hW3⟩ : ∃ W3, W3 = w3.alloc (.cells #[.slice a3 M c3, .int .i64 0, .bool false] 32) := ⟨_, rfl⟩
      rw [← hW3] at hF hB3 hR3 ⊢
      obtain ⟨g2, hgg⟩ : ∃ g2, g2 = w3.heap.size := ⟨_, rfl⟩
      rw [← hgg] at hF hgq hg2 ⊢
      have hF3 := Lib.hid hF
      clear hW3 hF HO3 HB3 HB1 HVH HR0 hgg
      go_loopw [7, 8] (fun iv okv wr => ∃ (k n : Nat) (b : Bool), k ≤ N ∧ iv = .int .i64 k ∧ Hid (RdAt wr g q B n b) ∧ Hid (RfAt wr g2 q2 B n b) ∧ Below w.heap.size w wr) (fun iv _ _ => N - (intOf iv).toNat)
      case atStart => exact ⟨0, 0, false, by omega, rfl, hR3, hF3, hB3⟩
      case round =>
        obtain ⟨k, n, b, hk, rfl, hRr, hFr, hB⟩ := hrel
        by_cases hlt : k < N
        · obtain ⟨x, hx⟩ : ∃ x, A[k]? = some x := get_some (by omega)
          obtain ⟨bk, off, rfl, hbw, hc⟩ := const_at hl (k := k) (by omega)
          obtain ⟨kd, z⟩ := x
          obtain ⟨d0, d1, _, _⟩ := hc k _ hx
          have c0 := (hB.cell (p := ⟨bk, off + k * 2, none⟩) hbw).trans d0
          have c1 := (hB.cell (p := ⟨bk, off + k * 2 + 1, none⟩) hbw).trans d1
          clear hc hx d0 d1
          dsimp only at c0 c1
          by_cases hk0 : kd = 0
          · subst hk0
            obtain ⟨N8, h8, h88⟩ := rNum_wrap B z n b
            obtain ⟨S1, hS⟩ : ∃ S1, rNum B N8 n b = S1 := ⟨_, rfl⟩
            have HP := Lib.hid (fun W hW => rd_Num g q B n N8 b z W hW h8 h88)
            have HQ := Lib.hid (fun W hW => rf_Num g2 q2 B n N8 b z W hW h8 h88)
            rw [hS] at HP HQ
            obtain ⟨cc, n1, b1⟩ := S1
            dsimp only at HP HQ
            clear h8 hS
            go_wp2_with fail
            refine Code.wp_mono ?_ (reads_r11 wr w.heap.size g q g2 q2 B n n1 b b1 bk off k N sc z cc hgq ⟨hg, hg2⟩ hB.size hbw hlt h2 c1 hRr.out hFr.out HP HQ _ _ _ _ _ _ _ _ _ _ _ _ _ _ _ _ _ _ _ _ _ _ _ _ _ _ _ _ _ _ _ _ _ _ _ _ _ _ _ _ _ _ _ _ _ _ _ _ _ _ _ _ _ _ _ _ _ _ _ _ _ _ _ _ _ _ _ _ _ _ _ _ _ _ _ _ _ _ _ _ _ _ _ _ _ _ _ _ _ _ _ _ _ _ _ _ _ _ _ _ _ _ _ _ _ _ _ _ _ _ _ _ _ _ _ _ _ _ _ _ _ _ _ _ _)
            rintro e bb v5 ⟨rfl, u8, u44, u45, u46, u47, u48, u49, u50, u51, u52, u53, u54, u55, u56, u57, u58, rfl, hH5, ⟨_, hR5⟩, ⟨_, hF5⟩, rfl⟩
            have hB5 := hB.trans hH5
            have HR5 := Lib.hid hR5
            have HF5 := Lib.hid hF5
            clear hR5 hF5 HP HQ c0 c1
            go_wp2_with fail
            obtain ⟨rv, hgc, _⟩ := HF5.out
            have z1 := cell_of hgc 1 (v := .int .i64 n1) rfl
            have z2 := cell_of hgc 2 (v := .bool b1) rfl
            have zg := (rf_here HF5.out).2.2
            clear hgc
            refine Code.wp_mono ?_ (reads_r14 v5 g q g2 q2 B n1 b1 HR5.out HF5.out z1 z2 zg _ _ _ _ _ _ _ _ _ _ _ _ _ _ _ _ _ _ _ _ _ _ _ _ _ _ _ _ _ _ _ _ _ _ _ _ _ _ _ _ _ _ _ _ _ _ _ _ _ _ _ _ _ _ _ _ _ _ _ _ _ _ _ _ _ _ _ _ _ _ _ _ _ _ _ _ _ _ _ _ _ _ _ _ _ _ _ _ _ _ _ _ _ _ _ _ _ _ _ _ _ _ _ _ _ _ _ _ _ _ _ _ _ _ _ _ _ _ _ _ _ _ _ _ _ _)
            rintro e bb v6 ⟨rfl, u78, u79, u80, u81, u82, u83, u84, u85, u86, u87, u88, u89, u90, u91, u92, u93, u94, u95, u96, u97, u98, u99, u100, u101, u102, u103, u104, rfl, hH6, rfl⟩
            have hB6 := hB5.trans (hH6.mono hB5.size)
            have HR6 := Lib.hid (rd_below HR5.out hH6)
            have HF6 := Lib.hid (rf_below HF5.out hH6)
            clear z1 z2 zg
            go_wp2_with fail
            go_roundw
            case rel => exact ⟨k + 1, n1, b1, by omega, by simp, HR6, HF6, hB6⟩
            case measure => first | (simp [intOf]; done) | (simp [intOf]; omega)
          · by_cases hk1 : kd = 1
            · subst hk1
              obtain ⟨S1, hS⟩ : ∃ S1, rTake B z n b = S1 := ⟨_, rfl⟩
              have HP := Lib.hid (fun W hW => rd_Take g q B n b z W hW)
              have HQ := Lib.hid (fun W hW => rf_Take g2 q2 B n b z W hW)
              rw [hS] at HP HQ
              obtain ⟨BB, n1, b1⟩ := S1
              dsimp only at HP HQ
              clear hS
              go_wp2_with fail
              refine Code.wp_mono ?_ (reads_r13 wr w.heap.size g q g2 q2 B n n1 b b1 bk off k N sc z BB hgq ⟨hg, hg2⟩ hB.size hbw hlt h2 c1 hRr.out hFr.out HP HQ _ _ _ _ _ _ _ _ _ _ _ _ _ _ _ _ _ _ _ _ _ _ _ _ _ _ _ _ _ _ _ _ _ _ _ _ _ _ _ _ _ _ _ _ _ _ _ _ _ _ _ _ _ _ _ _ _ _ _ _ _ _ _ _ _ _ _ _ _ _ _ _ _ _ _ _ _ _ _ _ _ _ _ _ _ _ _ _ _ _ _ _ _ _ _ _ _ _ _ _ _ _ _ _ _ _ _ _ _ _ _ _ _ _ _ _ _ _ _ _ _ _ _ _ _)
              rintro e bb v5 ⟨rfl, u8, u61, u62, u63, u64, u65, u66, u67, u68, u69, u70, u71, u72, u73, u74, u75, u76, u77, rfl, hH5, ⟨_, hR5⟩, ⟨_, hF5⟩, rfl⟩
              have hB5 := hB.trans hH5
              have HR5 := Lib.hid hR5
              have HF5 := Lib.hid hF5
              clear hR5 hF5 HP HQ c0 c1
              go_wp2_with fail
              obtain ⟨rv, hgc, _⟩ := HF5.out
              have z1 := cell_of hgc 1 (v := .int .i64 n1) rfl
              have z2 := cell_of hgc 2 (v := .bool b1) rfl
              have zg := (rf_here HF5.out).2.2
              clear hgc
              refine Code.wp_mono ?_ (reads_r14 v5 g q g2 q2 B n1 b1 HR5.out HF5.out z1 z2 zg _ _ _ _ _ _ _ _ _ _ _ _ _ _ _ _ _ _ _ _ _ _ _ _ _ _ _ _ _ _ _ _ _ _ _ _ _ _ _ _ _ _ _ _ _ _ _ _ _ _ _ _ _ _ _ _ _ _ _ _ _ _ _ _ _ _ _ _ _ _ _ _ _ _ _ _ _ _ _ _ _ _ _ _ _ _ _ _ _ _ _ _ _ _ _ _ _ _ _ _ _ _ _ _ _ _ _ _ _ _ _ _ _ _ _ _ _ _ _ _ _ _ _ _ _ _)
              rintro e bb v6 ⟨rfl, u78, u79, u80, u81, u82, u83, u84, u85, u86, u87, u88, u89, u90, u91, u92, u93, u94, u95, u96, u97, u98, u99, u100, u101, u102, u103, u104, rfl, hH6, rfl⟩
              have hB6 := hB5.trans (hH6.mono hB5.size)
              have HR6 := Lib.hid (rd_below HR5.out hH6)
              have HF6 := Lib.hid (rf_below HF5.out hH6)
              clear z1 z2 zg
              go_wp2_with fail
              go_roundw
              case rel => exact ⟨k + 1, n1, b1, by omega, by simp, HR6, HF6, hB6⟩
              case measure => first | (simp [intOf]; done) | (simp [intOf]; omega)
            · have q3 : (kd = 0) = False := eq_false hk0
              have q4 : (kd = 1) = False := eq_false hk1
              obtain ⟨S1, hS⟩ : ∃ S1, rText B n b = S1 := ⟨_, rfl⟩
              have HP := Lib.hid (fun W hW => rd_Text g q B n b W hW)
              have HQ := Lib.hid (fun W hW => rf_Text g2 q2 B n b W hW)
              rw [hS] at HP HQ
              obtain ⟨BB, n1, b1⟩ := S1
              dsimp only at HP HQ
              clear hS c1
              go_wp2_with fail
              refine (HP.out _ hRr.out).mono ?_; rintro e v4 ⟨rfl, hR4, hG4⟩
              have hB4 := grownBelow hB hG4 hg hB.size
              have hF4 := rf_grown hFr.out hG4 (by simp; omega) (by simp; omega)
              have HR4 := Lib.hid hR4
              have HF4 := Lib.hid hF4
              clear hR4 hF4 hG4 c0
              go_wp2_with fail
              refine (HQ.out _ HF4.out).mono ?_; rintro e v5 ⟨rfl, hF5, hG5⟩
              have hB5 := grownBelow hB4 hG5 hg2 hB4.size
              have HR5 := Lib.hid (rd_grown HR4.out hG5 (by simp; omega) (by simp; omega))
              have HF5 := Lib.hid hF5
              clear hF5 hG5 HP HQ
              go_wp2_with fail
              obtain ⟨rv, hgc, _⟩ := HF5.out
              have z1 := cell_of hgc 1 (v := .int .i64 n1) rfl
              have z2 := cell_of hgc 2 (v := .bool b1) rfl
              have zg := (rf_here HF5.out).2.2
              clear hgc
              refine Code.wp_mono ?_ (reads_r14 v5 g q g2 q2 B n1 b1 HR5.out HF5.out z1 z2 zg _ _ _ _ _ _ _ _ _ _ _ _ _ _ _ _ _ _ _ _ _ _ _ _ _ _ _ _ _ _ _ _ _ _ _ _ _ _ _ _ _ _ _ _ _ _ _ _ _ _ _ _ _ _ _ _ _ _ _ _ _ _ _ _ _ _ _ _ _ _ _ _ _ _ _ _ _ _ _ _ _ _ _ _ _ _ _ _ _ _ _ _ _ _ _ _ _ _ _ _ _ _ _ _ _ _ _ _ _ _ _ _ _ _ _ _ _ _ _ _ _ _ _ _ _ _)
              rintro e bb v6 ⟨rfl, u78, u79, u80, u81, u82, u83, u84, u85, u86, u87, u88, u89, u90, u91, u92, u93, u94, u95, u96, u97, u98, u99, u100, u101, u102, u103, u104, rfl, hH6, rfl⟩
              have hB6 := hB5.trans (hH6.mono hB5.size)
              have HR6 := Lib.hid (rd_below HR5.out hH6)
              have HF6 := Lib.hid (rf_below HF5.out hH6)
              clear z1 z2 zg
              go_wp2_with fail
              go_roundw
              case rel => exact ⟨k + 1, n1, b1, by omega, by simp, HR6, HF6, hB6⟩
              case measure => first | (simp [intOf]; done) | (simp [intOf]; omega)
        · obtain rfl : k = N := by omega
          go_wp2_with fail
          refine (reader_Bad_nil _).mono ?_; rintro e v1 ⟨rfl, rfl⟩
          go_wp2_with fail
          refine (reader_Num_nil _ _).mono ?_; rintro e v1 ⟨rfl, rfl⟩
          go_wp2_with fail
          refine (reader_Left_nil _).mono ?_; rintro e v1 ⟨rfl, rfl⟩
          go_wp2_with fail
          refine (reader_At_nil _).mono ?_; rintro e v1 ⟨rfl, rfl⟩
          go_wp2_with fail
          refine (reader_Take_nil _ _).mono ?_; rintro e v1 ⟨a7, c7, rfl, hb7⟩
          have hB7 := hB.trans (hb7.mono hB.size)
          go_wp2_with fail
          refine (reader_Text_nil _).mono ?_; rintro e v2 ⟨rfl, rfl⟩
          go_wp2_with fail
          refine (law03_awake _).mono ?_; rintro e v3 ⟨rfl, hb8⟩
          go_wp2_with fail
          go_ret
          exact ⟨rfl, hB7.trans (hb8.mono hB7.size)⟩
    · have q1 : (400 < (M : Int)) = False := eq_false (by omega)
      have q2 : (50 < (N : Int)) = True := eq_true (by omega)
      clear hl hv
      go_enter Try.func4, Try.ntmps4
      go_wp2_with fail
      refine (law03_awake _).mono ?_; rintro e w1 ⟨rfl, hb⟩
      go_wp2_with fail
      go_ret
      exact ⟨rfl, hb⟩
  · have q1 : (400 < (M : Int)) = True := eq_true (by omega)
    clear hl hv
    go_enter Try.func4, Try.ntmps4
    go_wp2_with fail
    refine (law03_awake _).mono ?_; rintro e w1 ⟨rfl, hb⟩
    go_wp2_with fail
    go_ret
    exact ⟨rfl, hb⟩
end Go.Proofs.Yteffcopdhimbaaa
