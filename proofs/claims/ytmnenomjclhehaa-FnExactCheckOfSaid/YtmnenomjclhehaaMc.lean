/- Texts of the walk, laid in one file. -/
import Derived.Handy
import Derived.Test.YtmnenomjclhehaaMb
set_option linter.unusedVariables false
set_option linter.unusedSimpArgs false
/- What functions give, by their results' kinds. Nothing here names a program. -/
namespace Go.Fk
open Go Go.RowKit
def Out_b (ar0 : Bool) (w : World) (e : Ending) (w' : World) : Prop := e = .returned (.bool ar0) ∧ le w w'
def Out_rfi (xr0 : Nat → Nat) (nr0 : Nat) (kr0 : Int) (ar1 : Nat) (ar2 : Int) (w : World) (e : Ending) (w' : World) : Prop := ∃ (v0 : Value) (v1 : Nat), e = .returned (.tuple #[.agg #[v0, .int .i64 kr0], .float .f32 v1, .int .i64 ar2]) ∧ OwnS w' w.heap.size w'.heap.size v0 xr0 nr0 ∧ can .f32 v1 = ar1 ∧ le w w'
def Out_fi (ar0 : Nat) (ar1 : Int) (w : World) (e : Ending) (w' : World) : Prop := ∃ (v0 : Nat), e = .returned (.tuple #[.float .f32 v0, .int .i64 ar1]) ∧ can .f32 v0 = ar0 ∧ le w w'
def Out_ri (xr0 : Nat → Nat) (nr0 : Nat) (kr0 : Int) (ar1 : Int) (w : World) (e : Ending) (w' : World) : Prop := ∃ (v0 : Value), e = .returned (.tuple #[.agg #[v0, .int .i64 kr0], .int .i64 ar1]) ∧ OwnS w' w.heap.size w'.heap.size v0 xr0 nr0 ∧ le w w'
def Out_si (xr0 : Nat → Nat) (nr0 : Nat) (kr0 : Int) (tkr0 : Int) (tar0 : Nat) (tbr0 : Nat) (tcr0 : Nat) (txr0 : Nat) (tyr0 : Nat) (dkr0 : Int) (dar0 : Nat) (dbr0 : Nat) (dcr0 : Nat) (dxr0 : Nat) (dyr0 : Nat) (lr0 : Nat) (ar1 : Int) (w : World) (e : Ending) (w' : World) : Prop := ∃ (v0 : Value), e = .returned (.tuple #[.agg #[v0, .int .i64 kr0, .int .i64 tkr0, .float .f32 tar0, .float .f32 tbr0, .float .f32 tcr0, .float .f32 txr0, .float .f32 tyr0, .int .i64 dkr0, .float .f32 dar0, .float .f32 dbr0, .float .f32 dcr0, .float .f32 dxr0, .float .f32 dyr0, .float .f32 lr0], .int .i64 ar1]) ∧ OwnS w' w.heap.size w'.heap.size v0 xr0 nr0 ∧ le w w'
def Out_sfi (xr0 : Nat → Nat) (nr0 : Nat) (kr0 : Int) (tkr0 : Int) (tar0 : Nat) (tbr0 : Nat) (tcr0 : Nat) (txr0 : Nat) (tyr0 : Nat) (dkr0 : Int) (dar0 : Nat) (dbr0 : Nat) (dcr0 : Nat) (dxr0 : Nat) (dyr0 : Nat) (lr0 : Nat) (ar1 : Nat) (ar2 : Int) (w : World) (e : Ending) (w' : World) : Prop := ∃ (v0 : Value) (v1 : Nat), e = .returned (.tuple #[.agg #[v0, .int .i64 kr0, .int .i64 tkr0, .float .f32 tar0, .float .f32 tbr0, .float .f32 tcr0, .float .f32 txr0, .float .f32 tyr0, .int .i64 dkr0, .float .f32 dar0, .float .f32 dbr0, .float .f32 dcr0, .float .f32 dxr0, .float .f32 dyr0, .float .f32 lr0], .float .f32 v1, .int .i64 ar2]) ∧ OwnS w' w.heap.size w'.heap.size v0 xr0 nr0 ∧ can .f32 v1 = ar1 ∧ le w w'
def Out_sui (xr0 : Nat → Nat) (nr0 : Nat) (kr0 : Int) (tkr0 : Int) (tar0 : Nat) (tbr0 : Nat) (tcr0 : Nat) (txr0 : Nat) (tyr0 : Nat) (dkr0 : Int) (dar0 : Nat) (dbr0 : Nat) (dcr0 : Nat) (dxr0 : Nat) (dyr0 : Nat) (lr0 : Nat) (ar1 : Int) (ar2 : Int) (w : World) (e : Ending) (w' : World) : Prop := ∃ (v0 : Value), e = .returned (.tuple #[.agg #[v0, .int .i64 kr0, .int .i64 tkr0, .float .f32 tar0, .float .f32 tbr0, .float .f32 tcr0, .float .f32 txr0, .float .f32 tyr0, .int .i64 dkr0, .float .f32 dar0, .float .f32 dbr0, .float .f32 dcr0, .float .f32 dxr0, .float .f32 dyr0, .float .f32 lr0], .int .u32 ar1, .int .i64 ar2]) ∧ OwnS w' w.heap.size w'.heap.size v0 xr0 nr0 ∧ le w w'
def Out_sli (xr0 : Nat → Nat) (nr0 : Nat) (kr0 : Int) (tkr0 : Int) (tar0 : Nat) (tbr0 : Nat) (tcr0 : Nat) (txr0 : Nat) (tyr0 : Nat) (dkr0 : Int) (dar0 : Nat) (dbr0 : Nat) (dcr0 : Nat) (dxr0 : Nat) (dyr0 : Nat) (lr0 : Nat) (xr1 : Nat → Nat) (nr1 : Nat) (ar2 : Int) (w : World) (e : Ending) (w' : World) : Prop := ∃ (v0 : Value) (v1 : Value) (q : Nat), e = .returned (.tuple #[.agg #[v0, .int .i64 kr0, .int .i64 tkr0, .float .f32 tar0, .float .f32 tbr0, .float .f32 tcr0, .float .f32 txr0, .float .f32 tyr0, .int .i64 dkr0, .float .f32 dar0, .float .f32 dbr0, .float .f32 dcr0, .float .f32 dxr0, .float .f32 dyr0, .float .f32 lr0], v1, .int .i64 ar2]) ∧ OwnS w' w.heap.size q v0 xr0 nr0 ∧ OwnS w' q w'.heap.size v1 xr1 nr1 ∧ w.heap.size ≤ q ∧ q ≤ w'.heap.size ∧ le w w'
def Out_bi (ar0 : Bool) (ar1 : Int) (w : World) (e : Ending) (w' : World) : Prop := e = .returned (.tuple #[.bool ar0, .int .i64 ar1]) ∧ le w w'
def Out_ii (ar0 : Int) (ar1 : Int) (w : World) (e : Ending) (w' : World) : Prop := e = .returned (.tuple #[.int .i64 ar0, .int .i64 ar1]) ∧ le w w'
def Out_s (xr0 : Nat → Nat) (nr0 : Nat) (kr0 : Int) (tkr0 : Int) (tar0 : Nat) (tbr0 : Nat) (tcr0 : Nat) (txr0 : Nat) (tyr0 : Nat) (dkr0 : Int) (dar0 : Nat) (dbr0 : Nat) (dcr0 : Nat) (dxr0 : Nat) (dyr0 : Nat) (lr0 : Nat) (w : World) (e : Ending) (w' : World) : Prop := ∃ (v0 : Value), e = .returned (.agg #[v0, .int .i64 kr0, .int .i64 tkr0, .float .f32 tar0, .float .f32 tbr0, .float .f32 tcr0, .float .f32 txr0, .float .f32 tyr0, .int .i64 dkr0, .float .f32 dar0, .float .f32 dbr0, .float .f32 dcr0, .float .f32 dxr0, .float .f32 dyr0, .float .f32 lr0]) ∧ OwnS w' w.heap.size w'.heap.size v0 xr0 nr0 ∧ le w w'
def Out_li (xr0 : Nat → Nat) (nr0 : Nat) (ar1 : Int) (w : World) (e : Ending) (w' : World) : Prop := ∃ (v0 : Value), e = .returned (.tuple #[v0, .int .i64 ar1]) ∧ OwnS w' w.heap.size w'.heap.size v0 xr0 nr0 ∧ le w w'
def Out_f (ar0 : Nat) (w : World) (e : Ending) (w' : World) : Prop := ∃ (v0 : Nat), e = .returned (.float .f32 v0) ∧ can .f32 v0 = ar0 ∧ le w w'
end Go.Fk

/- Checks, of both. -/
namespace Go.Fk
open Go Go.RowKit
/-- What has been found, behind one more number. -/
def mixU (h x : Int) : Int := bits BinOp.xor IntKind.u32 h x * 16777619 % 4294967296
/-- The check of the first n of some numbers, behind h. -/
def chkN (h : Int) (x : Nat → Nat) : Nat → Int
  | 0 => h
  | n + 1 => mixU (chkN h x n) (x n : Nat)
theorem chkN_congr (h : Int) {x y : Nat → Nat} : ∀ {n : Nat}, (∀ i, i < n → x i = y i) → chkN h x n = chkN h y n
  | 0, _ => rfl
  | n + 1, e => by unfold chkN; rw [chkN_congr h (fun i hi => e i (by omega)), e n (by omega)]
/-- The check of an index, a text and a block. -/
def chkV (k : Int) (s : ByteArray) (x : Nat → Nat) : Int := chkN (mixU (chkN 2166136261 (byteN s) s.size) (k % 4294967296)) (fun i => can .f32 (x i)) 16
end Go.Fk
namespace Go.Proofs.Ytmnenomjclhehaa
open Go.RowKit Go.Fk
theorem s_l10Mix (h x : Int) (w : World) : Calls Try.prog 51 #[.int .u32 h, .int .u32 x] w fun e w' => e = .returned (.int .u32 (mixU h x)) ∧ w = w' := by
  go_enter Try.func51, Try.ntmps51
  go_wp2
  go_ret
  exact ⟨rfl, rfl⟩
theorem i_checked (h x : Int) (w : World) : Calls Try.prog 33 #[.int .u32 h, .int .u32 x] w fun e w' => e = .returned (.int .u32 (mixU h x)) ∧ w = w' := by
  go_enter Try.func33, Try.ntmps33
  go_wp2
  go_ret
  exact ⟨rfl, rfl⟩
set_option maxRecDepth 100000 in
set_option maxHeartbeats 2000000 in
theorem i_checkedBytes0 (p : Option Addr) (cap : Nat) (w : World) : Calls Try.prog 34 #[.slice p 0 cap] w fun e w' => e = .returned (.int .u32 2166136261) ∧ w = w' := by
  go_enter Try.func34, Try.ntmps34
  go_wp2
  go_loop [3, 8] (fun s i => s = .int .u32 2166136261 ∧ i = .int .i64 0) (fun s i => 0)
  case atStart => exact ⟨rfl, rfl⟩
  case round =>
    obtain ⟨rfl, rfl⟩ := hrel
    go_wp2
    go_ret
    exact ⟨rfl, rfl⟩
set_option maxRecDepth 100000 in
set_option maxHeartbeats 2000000 in
theorem i_checkedBytes (x : Nat → Nat) (b o n cap : Nat) (w : World) (hx : ∀ i, i < n → w.cell? ⟨b, o + i, none⟩ = some (.int .u8 (x i : Nat))) (hl : ∀ i, i < n → x i < 256) (hn : n ≤ 9223372036854775807) : Calls Try.prog 34 #[.slice (some ⟨b, o, none⟩) n cap] w fun e w' => e = .returned (.int .u32 (chkN 2166136261 x n)) ∧ w = w' := by
  have HX := hid hx
  have HL := hid hl
  clear hx hl
  have HC := hid (fun h x w' => i_checked h x w')
  go_enter Try.func34, Try.ntmps34
  go_wp2
  go_loop [3, 8] (fun s i => ∃ j : Nat, j ≤ n ∧ s = .int .u32 (chkN 2166136261 x j) ∧ i = .int .i64 j) (fun s i => n - (intOf i).toNat)
  case atStart => exact ⟨0, by omega, rfl, rfl⟩
  case round =>
    obtain ⟨j, hj, rfl, rfl⟩ := hrel
    by_cases hlt : j < n
    · have hc := HX.out j hlt
      have hb := HL.out j hlt
      have hlt' : (j : Int) < (n : Int) := by omega
      go_wp2_with (go_at_call 33; ((with_reducible refine (HC.out _ _ _).mono ?_); rintro e w1 ⟨rfl, rfl⟩))
      go_round
      case rel => exact ⟨j + 1, by omega, rfl, by go_num⟩
      case measure => simp [intOf]; omega
    · obtain rfl : j = n := by omega
      go_wp2
      go_ret
      exact ⟨rfl, rfl⟩
set_option maxRecDepth 100000 in
set_option maxHeartbeats 2000000 in
theorem s_l10Check (k : Int) (s : ByteArray) (x : Nat → Nat) (g : Nat) (w : World) (hs : s.size ≤ maxLen) (hx : ∀ i, i < 16 → w.cell? ⟨g, i, none⟩ = some (.float .f32 (x i))) : Calls Try.prog 32 #[.int .i64 k, .string s, .pointer (some ⟨g, 0, none⟩)] w fun e w' => e = .returned (.int .u32 (chkV k s x)) ∧ w = w' := by
  unfold maxLen at hs
  have HX := hid hx
  clear hx
  have HM := hid (fun h x w' => s_l10Mix h x w')
  have HB := hid (fun x w' => s_l01Bits x w')
  go_enter Try.func32, Try.ntmps32
  go_wp2
  go_loop [7, 8] (fun h i => ∃ j : Nat, j ≤ s.size ∧ h = .int .u32 (chkN 2166136261 (byteN s) j) ∧ i = .int .i64 j) (fun h i => s.size - (intOf i).toNat)
  case atStart => exact ⟨0, by omega, rfl, rfl⟩
  case round =>
    obtain ⟨j, hj, rfl, rfl⟩ := hrel
    by_cases hlt : j < s.size
    · have hlt' : (j : Int) < (s.size : Int) := by omega
      have hb := byteN_lt s j
      have hg := getB hlt
      go_wp2_with (go_at_call 51; ((with_reducible refine (HM.out _ _ _).mono ?_); rintro e w1 ⟨rfl, rfl⟩))
      go_round
      case rel => exact ⟨j + 1, by omega, rfl, by go_num⟩
      case measure => simp [intOf]; omega
    · obtain rfl : j = s.size := by omega
      go_wp2_with (go_at_call 51; ((with_reducible refine (HM.out _ _ _).mono ?_); rintro e w1 ⟨rfl, rfl⟩))
      go_loop [7, 9] (fun h i => ∃ j : Nat, j ≤ 16 ∧ h = .int .u32 (chkN (mixU (chkN 2166136261 (byteN s) s.size) (k % 4294967296)) (fun i => can .f32 (x i)) j) ∧ i = .int .i64 j) (fun h i => 16 - (intOf i).toNat)
      case atStart => exact ⟨0, by omega, rfl, rfl⟩
      case round =>
        obtain ⟨i, hi, rfl, rfl⟩ := hrel
        by_cases hlt : i < 16
        · have hc := HX.out i hlt
          go_wp2_with (first | (go_at_call 52; ((with_reducible refine (HB.out _ _).mono ?_); rintro e w1 ⟨rfl, rfl⟩)) | (go_at_call 51; ((with_reducible refine (HM.out _ _ _).mono ?_); rintro e w1 ⟨rfl, rfl⟩)))
          go_round
          case rel => exact ⟨i + 1, by omega, rfl, by go_num⟩
          case measure => simp [intOf]; omega
        · obtain rfl : i = 16 := by omega
          go_wp2
          go_ret
          exact ⟨rfl, rfl⟩
set_option maxRecDepth 100000 in
set_option maxHeartbeats 2000000 in
theorem s_CheckOf (k : Int) (s : ByteArray) (x : Nat → Nat) (w : World) (hs : s.size ≤ maxLen) : Calls Try.prog 11 #[.int .i64 k, .string s, .agg (ftab .f32 x 16)] w fun e w' => e = .returned (.int .u32 (chkV k s x)) ∧ le w w' := by
  have R := Row.new w 32 (ftab .f32 x 16)
  have HC := hid (s_l10Check k s x w.heap.size (w.alloc (.cells (ftab .f32 x 16) 32)) hs (fun i hi => R.ftab hi))
  have HL := hid (le_alloc w (.cells (ftab .f32 x 16) 32))
  clear R hs
  go_enter Try.func11, Try.ntmps11
  go_wp2_with (go_at_call 32; ((with_reducible refine HC.out.mono ?_); rintro e w1 ⟨rfl, rfl⟩))
  go_ret
  exact ⟨rfl, HL.out⟩
set_option maxRecDepth 100000 in
set_option maxHeartbeats 2000000 in
theorem i_CheckOf (k : Int) (s : ByteArray) (x : Nat → Nat) (w : World) (hs : s.size ≤ maxLen) : Calls Try.prog 13 #[.int .i64 k, .string s, .agg (ftab .f32 x 16)] w fun e w' => e = .returned (.int .u32 (chkV k s x)) ∧ le w w' := by
  have R := Row.new w 32 (ftab .f32 x 16)
  have HL := hid (le_alloc w (.cells (ftab .f32 x 16) 32))
  obtain ⟨wb, hwb⟩ : ∃ wb, wb = w.alloc (.cells (ftab .f32 x 16) 32) := ⟨_, rfl⟩
  have hconv := run_bytes_of_string (P := Try.prog) wb 9 36 5 s Try.underlying9 Try.underlying36 Try.underlying5
  obtain ⟨cap, hcap⟩ : ∃ cap, cap = grownCap wb s.size 0 5 := ⟨_, rfl⟩
  rw [← hcap] at hconv
  clear hcap
  obtain ⟨C, hC⟩ : ∃ C, C = bytesRow s cap := ⟨_, rfl⟩
  rw [← hC] at hconv
  obtain ⟨wc, hwc⟩ : ∃ wc, wc = (wb.alloc (.cells C 5 (C.size, C.size + 1))).drew := ⟨_, rfl⟩
  have hle : le wb wc := by rw [hwc]; exact le_trans (le_alloc wb (.cells C 5 (C.size, C.size + 1))) (le_drewN _ 1)
  have hcell : ∀ i, i < s.size → wc.cell? ⟨wb.heap.size, 0 + i, none⟩ = some (.int .u8 (byteN s i : Nat)) := fun i hi => by
    rw [← bytesRow_get (cap := cap) hi, ← hC, hwc, Nat.zero_add]
    have e : (wb.alloc (.cells C 5 (C.size, C.size + 1))).drew.heap[wb.heap.size]? = some (.cells C 5 (C.size, C.size + 1)) := by
      show (wb.heap.push (.cells C 5 (C.size, C.size + 1)))[wb.heap.size]? = _
      simp
    unfold World.cell?
    rw [e]
    rfl
  have HH := hid (show le w wc from le_trans (hwb ▸ HL.out) hle)
  have F : Frg w wc _ := (((Frg.nil w).box 32 (ftab .f32 x 16)).le (hwb ▸ hle))
  have HX := hid (fun i (hi : i < 16) => show wc.cell? ⟨w.heap.size, i, none⟩ = some (.float .f32 (x i)) from ((hwb ▸ R : Row wb w.heap.size 32 (ftab .f32 x 16)).le hle).ftab hi)
  have HCB := hid (i_checkedBytes (byteN s) wb.heap.size 0 s.size cap wc hcell (fun i _ => byteN_lt s i) (by unfold maxLen at hs; omega))
  have hsz := hid (show (Try.prog.info? 32).map (·.size) = some (ftab .f32 x 16).size by rw [size_ftab]; kernel_rfl)
  have hconv' : (convert 9 36 (.string s)).run Try.prog wb = .ok (.slice (some ⟨wb.heap.size, 0, none⟩) s.size cap) wc := by rw [hconv, hwc]; rfl
  clear hconv hC hle hcell R HL hs hwc
  rw [hwb] at hconv'
  have HM := hid (fun h x w' => i_checked h x w')
  have HB := hid (fun x w' => i_bitsOf x w')
  have hbs : wb.heap.size = w.heap.size + 1 := by rw [hwb]; simp only [World.size_alloc]
  rw [hbs] at HCB
  clear hwb hbs
  go_enter Try.func13, Try.ntmps13
  go_wp2_with (first | (go_at_call 34; ((with_reducible refine HCB.out.mono ?_); rintro e w1 ⟨rfl, rfl⟩)) | (go_at_call 33; ((with_reducible refine (HM.out _ _ _).mono ?_); rintro e w1 ⟨rfl, rfl⟩)) | ((with_reducible refine at_load rfl ?_); (refine wpList_loadG F rfl rfl rfl m0 Try.underlying32 rfl hsz.out rfl ?_)))
  go_loop [7, 17] (fun h i => ∃ j : Nat, j ≤ 16 ∧ h = .int .u32 (chkN (mixU (chkN 2166136261 (byteN s) s.size) (k % 4294967296)) (fun i => can .f32 (x i)) j) ∧ i = .int .i64 j) (fun h i => 16 - (intOf i).toNat)
  case atStart => exact ⟨0, by omega, rfl, rfl⟩
  case round =>
    obtain ⟨i, hi, rfl, rfl⟩ := hrel
    by_cases hlt : i < 16
    · have hidx := fun w' => run_index_arr (P := Try.prog) w' Try.underlying32 Try.underlying28 (by kernel_rfl) hlt (get_ftab .f32 x 16 i hlt) .i64
      go_wp2_with (first | (go_at_call 35; ((with_reducible refine (HB.out _ _).mono ?_); rintro e w1 ⟨rfl, rfl⟩)) | (go_at_call 33; ((with_reducible refine (HM.out _ _ _).mono ?_); rintro e w1 ⟨rfl, rfl⟩)))
      go_round
      case rel => exact ⟨i + 1, by omega, rfl, by go_num⟩
      case measure => simp [intOf]; omega
    · obtain rfl : i = 16 := by omega
      go_wp2
      go_ret
      exact ⟨rfl, HH.out⟩
end Go.Proofs.Ytmnenomjclhehaa

/- The walk of 'FnExactCheckOf'. -/
namespace Go.Proofs.Ytmnenomjclhehaa.fnExactCheckOf
open Go.RowKit Go.Fk
set_option maxRecDepth 100000 in
set_option maxHeartbeats 4000000 in
theorem walk (a0 : Int) (a1 : ByteArray) (a2 : List Nat) (w : World) (w0 : (Lit.int .i64 a0).wf = true) (w1 : a1.size ≤ maxLen) (l2 : a2.length = 16) (w2 : ∀ b ∈ a2, fits .f32 b) :
    Calls Try.prog 4 #[.int .i64 a0, .string a1, .agg (a2.map (Value.float .f32)).toArray] w fun e w' => e = .returned (.bool true) ∧ Below w.heap.size w w' := by
  rw [ftab_of_list, l2]
  obtain ⟨x, hx⟩ : ∃ x : Nat → Nat, x = fun j => a2.getD j 0 := ⟨_, rfl⟩
  rw [← hx]
  clear hx l2 w2 w0
  have HI := hid (fun (w' : World) => i_CheckOf a0 a1 x w' w1)
  have HS := hid (fun (w' : World) => s_CheckOf a0 a1 x w' w1)
  have HT := hid (toBlock_any x)
  unfold maxLen at w1
  have hsx := hid (show (Try.prog.info? 29).map (·.size) = some (ftab .f32 x 16).size by rw [size_ftab]; kernel_rfl)
  have F := (Frg.nil w).box 29 (ftab .f32 x 16)
  by_cases h20 : (1048576 : Int) < (a1.size : Int)
  · clear w1
    go_enter Try.func4, Try.ntmps4
    go_wp2
    go_ret
    exact ⟨rfl, F.below⟩
  clear w1
  go_enter Try.func4, Try.ntmps4
  go_wp2_with (first | ((with_reducible refine at_load rfl ?_); (refine wpList_loadG F rfl rfl rfl m0 Try.underlying29 rfl hsx.out rfl ?_)) | (go_at_call 12; ((with_reducible refine (HT.out _).mono ?_); rintro e w1 ⟨rfl, hl1⟩; replace F := F.le hl1; clear hl1)) | (go_at_call 11; ((with_reducible refine (HS.out _).mono ?_); rintro e w1 ⟨rfl, hl1⟩; replace F := F.le hl1; clear hl1)) | (go_at_call 13; ((with_reducible refine (HI.out _).mono ?_); rintro e w1 ⟨rfl, hl1⟩; replace F := F.le hl1; clear hl1)))
  go_ret
  exact ⟨rfl, F.below⟩
end Go.Proofs.Ytmnenomjclhehaa.fnExactCheckOf
