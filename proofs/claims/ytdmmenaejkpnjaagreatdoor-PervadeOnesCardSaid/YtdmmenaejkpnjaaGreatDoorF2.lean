/-
  Texts of this seat, laid together.
-/
import Derived.Test.YtdmmenaejkpnjaaGreatDoorF1
set_option maxHeartbeats 12800000
set_option maxRecDepth 100000
set_option linter.unusedSimpArgs false
set_option linter.unusedVariables false
namespace Go.Proofs.YtdmmenaejkpnjaaGreatDoor
open Go.RowKit
def KRow(w:World)(ki:IntKind)(a:Option Addr)(n c:Nat)(f:Nat->Int):Prop:=n<=c/\c<=maxLen/\(n=0∨∃b off,a=some ⟨b,off,none⟩/\b<w.heap.size/\∀j,j<n->w.cell? ⟨b,off+j,none⟩=some (.int ki (f j)))
theorem KRow.below{w w':World}{ki:IntKind}{a:Option Addr}{n c:Nat}{f:Nat->Int}(h:KRow w ki a n c f)(hb:Below w.heap.size w w'):KRow w' ki a n c f:=by
 obtain⟨h1,h2,h3⟩:=h;refine⟨h1,h2,h3.imp id ?_⟩;rintro⟨b,off,rfl,hl,hc⟩;exact⟨b,off,rfl,Nat.lt_of_lt_of_le hl hb.size,fun j hj=>(hb.cell (p:=⟨b,off+j,none⟩) hl).trans (hc j hj)⟩
theorem KRow.get{w:World}{ki:IntKind}{a:Option Addr}{n c:Nat}{f:Nat->Int}(h:KRow w ki a n c f){j:Nat}(hj:j<n):∃b off,a=some ⟨b,off,none⟩/\b<w.heap.size/\w.cell? ⟨b,off+j,none⟩=some (.int ki (f j)):=by
 rcases h.2.2 with h|⟨b,off,rfl,hl,hc⟩
 · omega
 · exact⟨b,off,rfl,hl,hc j hj⟩
theorem KRow.len{w:World}{ki:IntKind}{a:Option Addr}{n c:Nat}{f:Nat->Int}(h:KRow w ki a n c f):n<=c/\n<=9223372036854775807:=by
 have h1:=h.1;have h2:=h.2.1;unfold maxLen at h2;exact⟨h1,by omega⟩
def In64(f:Nat->Int)(n:Nat):Prop:=∀j,j<n -> -9223372036854775808<=f j/\f j<=9223372036854775807
def rm(f:Nat->Int):Nat->Int
 | 0=>1
 | k+1=>rm f k*max (f k) 1
def itm(f:Nat->Int):Nat->Int
 | 0=>1
 | k+1=>itm f k*f k
def axB(f:Nat->Int):Nat->Bool
 | 0=>true
 | k+1=>axB f k&&(decide (0<=f k)&&decide (rm f (k+1)<=4096))
def shB(f:Nat->Int)(n:Nat):Bool:=decide (n<=8)&&axB f n
def cntI(f:Nat->Int)(n:Nat):Int:=if shB f n then itm f n else 0
theorem ax_bd{f:Nat->Int}:∀ {k:Nat},axB f k=true->1<=rm f k/\rm f k<=4096/\0<=itm f k/\itm f k<=rm f k:=by
 intro k
 induction k with
 | zero=>intro _;simp[rm,itm]
 | succ k ih =>
  intro h;unfold axB at h;rw[Bool.and_eq_true,Bool.and_eq_true,decide_eq_true_eq,decide_eq_true_eq]at h;obtain⟨h1,h2,h3⟩:=h;obtain⟨i1,i2,i3,i4⟩:=ih h1;have hm:1<=max (f k) 1:=by omega
  have e1:1*1<=rm f k*max (f k) 1:=Int.mul_le_mul i1 hm (by omega) (by omega);have e2:itm f k*f k<=rm f k*max (f k) 1:=Int.mul_le_mul i4 (by omega) h2 (by omega);have e3:0<=itm f k*f k:=Int.mul_nonneg i3 h2;unfold rm itm;unfold rm at h3
  omega
theorem ax_le{f:Nat->Int}:∀ {k m:Nat},k<=m->axB f m=true->axB f k=true:=by
 intro k m
 induction m with
 | zero => intro h h2; obtain rfl : k = 0 := by omega
           exact h2
 | succ m ih =>
  intro h h2
  rcases Nat.lt_or_ge k (m+1)with h3|h3
  · refine ih (by omega) ?_;unfold axB at h2;rw[Bool.and_eq_true]at h2;exact h2.1
  · obtain rfl:k=m+1:=by omega
    exact h2
theorem ax_quo{f:Nat->Int}{k:Nat}(h:axB f k=true):axB f (k+1)=(!decide (f k<0) && !decide (4096 / rm f k<f k)):=by
 obtain⟨i1,i2,_,_⟩:=ax_bd h;unfold axB;rw[h,Bool.true_and]
 by_cases h0:f k<0
 · rw[decide_eq_true h0,decide_eq_false (by omega)];rfl
 · rw [decide_eq_false h0, decide_eq_true (show 0 <= f k by omega), Bool.true_and, Bool.not_false, Bool.true_and]
   have e:rm f (k+1)<=4096↔¬4096 / rm f k<f k:=by
    rw[show rm f (k+1)=rm f k*max (f k) 1 from rfl,Int.not_lt];have e2:f k<=4096 / rm f k↔f k*rm f k<=4096:=Int.le_ediv_iff_mul_le (by omega);rw[e2,Int.mul_comm]
    rcases Int.lt_or_le (f k) 1 with h1|h1
    · rw[show f k=0 by omega];simp only[Int.zero_mul];rw[show max (0:Int) 1=1 from rfl]
      omega
    · rw[show max (f k) 1=f k by omega]
   rw[Bool.eq_iff_iff,decide_eq_true_eq,Bool.not_eq_true',decide_eq_false_iff_not];exact e
theorem ax_ref{f:Nat->Int}{k:Nat}(h:axB f k=true):axB f (k+1)=(!decide (f k<0)&&(!decide (4096<f k) && !decide (4096<rm f k*max (f k) 1))):=by
 obtain⟨i1,i2,_,_⟩:=ax_bd h;unfold axB;rw[h,Bool.true_and]
 by_cases h0:f k<0
 · rw[decide_eq_true h0,decide_eq_false (by omega)];rfl
 · rw [decide_eq_false h0, decide_eq_true (show 0 <= f k by omega), Bool.true_and, Bool.not_false, Bool.true_and]
   have e:rm f (k+1)<=4096↔¬4096<f k/\¬4096<rm f k*max (f k) 1:=by
    rw[show rm f (k+1)=rm f k*max (f k) 1 from rfl]
    constructor
    · intro h2;have e1:1*max (f k) 1<=rm f k*max (f k) 1:=Int.mul_le_mul i1 (Int.le_refl _) (by omega) (by omega)
      omega
    · rintro⟨_,h2⟩;omega
   rw[Bool.eq_iff_iff,decide_eq_true_eq,Bool.and_eq_true,Bool.not_eq_true',Bool.not_eq_true',decide_eq_false_iff_not,decide_eq_false_iff_not];exact e
theorem sh_false{f:Nat->Int}{n k:Nat}(hk:k<=n)(h:axB f k=false):shB f n=false:=by
 unfold shB
 have:axB f n=false:=by
  cases hx:axB f n with
  | false=>rfl
  | true=>rw[ax_le hk hx]at h;cases h
 rw[this,Bool.and_false]
theorem sh_long{f:Nat->Int}{n:Nat}(h:8<n):shB f n=false:=by
 unfold shB;rw[decide_eq_false (by omega),Bool.false_and]
def CntTold(f:Nat->Int)(n:Nat)(w w':World)(e:Ending):Prop:=e=.returned (.tuple #[.int .i64 (cntI f n),.bool (shB f n)])/\w=w'
theorem CntTold.no{f:Nat->Int}{n:Nat}(w:World)(h:shB f n=false):CntTold f n w w (.returned (.tuple #[.int .i64 0,.bool false])):=by
 refine⟨?_,rfl⟩;unfold cntI;rw[h]
 rfl
theorem CntTold.yes{f:Nat->Int}{n:Nat}(w:World)(h8:n<=8)(h:axB f n=true):CntTold f n w w (.returned (.tuple #[.int .i64 (itm f n),.bool true])):=by
 have:shB f n=true:=by unfold shB;rw[decide_eq_true h8,h];rfl
 refine⟨?_,rfl⟩;unfold cntI;rw[this]
 rfl
theorem count_any (a : Option Addr) (n c : Nat) (f : Nat -> Int) (w : World) (h : KRow w .i64 a n c f) (hf : In64 f n) :
    Calls Tryz.prog 97 #[.slice a n c] w fun e w'=>CntTold f n w w' e:=by
 have hl:=h.len;have H:=Lib.hid h;have HF:=Lib.hid hf;clear h hf
 by_cases h8:n<=8
 · have hd : ¬ ((8 : Int) < n) := by omega
   go_enter Tryz.func97,Tryz.ntmps97;go_wp2
   go_loop [4,5,13] (fun r t i=>∃k:Nat,k<=n/\i=.int .i64 k/\r=.int .i64 (rm f k)/\t=.int .i64 (itm f k)/\Hid (axB f k=true)) (fun _ _ i=>n-(intOf i).toNat)
   case atStart=>exact⟨0,by omega,rfl,rfl,rfl,rfl⟩
   case round =>
    obtain⟨k,hk,rfl,rfl,rfl,hax⟩:=hrel;have hq:=ax_quo hax.out;obtain⟨r1,r2,t1,t2⟩:=ax_bd hax.out;have e1:rm f (k+1)=rm f k*max (f k) 1:=rfl;have e2:itm f (k+1)=itm f k*f k:=rfl
    by_cases hlt:k<n
    · obtain ⟨b, off, rfl, hb, hc⟩ := H.out.get hlt; have hx := HF.out k hlt
      by_cases hx0:f k<0
      · have hno:shB f n=false:=sh_false (k:=k+1) (by omega) (by rw[hq,decide_eq_true hx0];rfl);have HN:=Lib.hid (CntTold.no w hno);generalize f k=x at *;clear hq e1 e2 hno;go_wp2;go_ret2;exact HN.out
      · have hx1 : 0 <= f k := by omega
        have hqb:(4096:Int).tdiv (rm f k)=4096 / rm f k:=Int.tdiv_eq_ediv_of_nonneg (by omega);have hqw:IntKind.i64.wrap (4096 / rm f k)=4096 / rm f k:=IntWalk.i64_in _ ⟨by have:=Int.ediv_nonneg (show(0:Int)<=4096 by omega) (show 0<=rm f k by omega);omega,by have:=Int.ediv_le_self (rm f k) (show(0:Int)<=4096 by omega);omega⟩
        by_cases hx2:4096 / rm f k<f k
        · have hno:shB f n=false:=sh_false (k:=k+1) (by omega) (by rw[hq,decide_eq_true hx2,Bool.not_true,Bool.and_false]);have HN:=Lib.hid (CntTold.no w hno);generalize 4096 / rm f k=q at *;generalize rm f k=r at *;generalize f k=x at *;generalize itm f k=t at *;clear hq e1 e2 hno;go_wp2;go_ret2;exact HN.out
        · have hnx:axB f (k+1)=true:=by rw[hq,decide_eq_false hx0,decide_eq_false hx2];rfl
          have b2:=ax_bd hnx;have HX:=Lib.hid hnx;rw[e1,e2]at b2;have E2:=Lib.hid e2;obtain⟨c1,c2,c3,c4⟩:=b2;have hm:max (f k) 1=if f k<1 then 1 else f k:=by split<;>omega
          have E1:Hid (wrap64 (rm f k*if f k<1 then 1 else f k)=rm f (k+1)):=by
           show _=_
           rw[e1,← hm];exact IntWalk.wrap64_in _ (by omega)
          have w2:=IntWalk.i64_in (itm f k*f k) (by omega);clear hm c1 c2;clear hq e1 e2 hnx;generalize 4096 / rm f k=q at *;generalize rm f k=r at *;generalize f k=x at *;generalize itm f k=t at *;go_wp2
          go_round
          case rel=>exact⟨k+1,by omega,by go_num,(by first|exact vint E1.out|exact vint ((congrArg (fun z=>wrap64 (r*z)) (show max x 1=if x<1 then 1 else x by split<;>omega)).trans E1.out)),vint E2.out.symm,HX.out⟩
          case measure=>simp[intOf];omega
    · obtain rfl:k=n:=by omega
      have HY:=Lib.hid (CntTold.yes w h8 hax.out);generalize rm f k=r at *;generalize itm f k=t at *;clear hq e1 e2;go_wp2;go_ret2;exact HY.out
 · have hd:(8:Int)<n:=by omega
   have HN:=Lib.hid (CntTold.no w (sh_long (f:=f) (show 8<n by omega)));clear h8;go_enter Tryz.func97,Tryz.ntmps97;go_wp2;go_ret2;exact HN.out
theorem r6Count_any (a : Option Addr) (n c : Nat) (f : Nat -> Int) (w : World) (h : KRow w .i64 a n c f) (hf : In64 f n) :
    Calls Tryz.prog 88 #[.slice a n c] w fun e w'=>CntTold f n w w' e:=by
 have hl:=h.len;have H:=Lib.hid h;have HF:=Lib.hid hf;clear h hf;go_enter Tryz.func88,Tryz.ntmps88;go_wp2
 go_loop [4,5,6] (fun r t i=>∃k:Nat,k<=n/\k<=8/\i=.int .i64 k/\r=.int .i64 (rm f k)/\t=.int .i64 (itm f k)/\Hid (axB f k=true)) (fun _ _ i=>n-(intOf i).toNat)
 case atStart=>exact⟨0,by omega,by omega,rfl,rfl,rfl,rfl⟩
 case round =>
  obtain⟨k,hk,hk8,rfl,rfl,rfl,hax⟩:=hrel;have hq:=ax_ref hax.out;obtain⟨r1,r2,t1,t2⟩:=ax_bd hax.out;have e1:rm f (k+1)=rm f k*max (f k) 1:=rfl;have e2:itm f (k+1)=itm f k*f k:=rfl
  by_cases hlt:k<n
  · by_cases h8 : k < 8
    · have d8 : ¬ ((8 : Int) <= k) := by omega
      obtain⟨b,off,rfl,hb,hc⟩:=H.out.get hlt;have hx:=HF.out k hlt
      by_cases hx0:f k<0
      · have hno:shB f n=false:=sh_false (k:=k+1) (by omega) (by rw[hq,decide_eq_true hx0];rfl);have HN:=Lib.hid (CntTold.no w hno);generalize f k=x at *;clear hq e1 e2 hno;go_wp2;go_ret2;exact HN.out
      · have hx1 : 0 <= f k := by omega
        by_cases hx2:4096<f k
        · have hno:shB f n=false:=sh_false (k:=k+1) (by omega) (by rw[hq,decide_eq_true hx2,Bool.not_true,Bool.false_and,Bool.and_false]);have HN:=Lib.hid (CntTold.no w hno);generalize f k=x at *;clear hq e1 e2 hno;go_wp2;go_ret2;exact HN.out
        · have hm : max (f k) 1 = if 0 < f k then f k else 1 := by split <;> omega
          have u1:0<=rm f k*max (f k) 1/\rm f k*max (f k) 1<=4096*4096:=⟨Int.mul_nonneg (by omega) (by omega),Int.mul_le_mul r2 (by omega) (by omega) (by omega)⟩
          have u2:0<=itm f k*f k/\itm f k*f k<=4096*4096:=⟨Int.mul_nonneg t1 hx1,Int.mul_le_mul (by omega) (by omega) (by omega) (by omega)⟩
          have w2:=IntWalk.i64_in (itm f k*f k) (by omega)
          by_cases hx3:4096<rm f k*max (f k) 1
          · have hno:shB f n=false:=sh_false (k:=k+1) (by omega) (by rw[hq,decide_eq_true hx3,Bool.not_true,Bool.and_false,Bool.and_false]);have HN:=Lib.hid (CntTold.no w hno)
            by_cases hp:0<f k
            · rw[hm,if_pos hp]at hx3 u1;have w1:=IntWalk.i64_in (rm f k*f k) (by omega);generalize f k=x at *;generalize rm f k=r at *;generalize itm f k=t at *;clear hq e1 e2 hno hm;go_wp2;go_ret2;exact HN.out
            · exfalso
              rw[hm,if_neg hp,Int.mul_one]at hx3
              omega
          · have hnx:axB f (k+1)=true:=by rw[hq,decide_eq_false hx0,decide_eq_false hx2,decide_eq_false hx3];rfl
            have HX:=Lib.hid hnx;have E2:=Lib.hid e2
            have E1:Hid (∀z,z=max (f k) 1->rm f k*z=rm f (k+1)):=by
             intro z hz;rw[hz,e1]
            have HM:=Lib.hid hm
            by_cases hp:0<f k
            · have E3:Hid (rm f k*f k=rm f (k+1)):=E1.out _ (by rw[hm,if_pos hp]);rw[hm,if_pos hp]at hx3 u1;have w1:=IntWalk.i64_in (rm f k*f k) (by omega);clear hq e1 e2 hnx hm HM E1;generalize f k=x at *;generalize rm f k=r at *;generalize itm f k=t at *;go_wp2
              go_round
              case rel=>exact⟨k+1,by omega,by omega,by go_num,vint E3.out,vint E2.out.symm,HX.out⟩
              case measure=>simp[intOf];omega
            · have E3:Hid (rm f k=rm f (k+1)):=by have:=E1.out 1 (by rw[hm,if_neg hp]);rw[Int.mul_one]at this;exact this
              clear hq e1 e2 hnx hm HM E1 hx3 u1;generalize f k=x at *;generalize rm f k=r at *;generalize itm f k=t at *;go_wp2
              go_round
              case rel=>exact⟨k+1,by omega,by omega,by go_num,vint E3.out,vint E2.out.symm,HX.out⟩
              case measure=>simp[intOf];omega
    · have d8:(8:Int)<=k:=by omega
      have HN:=Lib.hid (CntTold.no w (sh_long (f:=f) (show 8<n by omega)));clear hq e1 e2;go_wp2;go_ret2;exact HN.out
  · obtain rfl:k=n:=by omega
    have HY:=Lib.hid (CntTold.yes w hk8 hax.out);generalize rm f k=r at *;generalize itm f k=t at *;clear hq e1 e2;go_wp2;go_ret2;exact HY.out
end Go.Proofs.YtdmmenaejkpnjaaGreatDoor
