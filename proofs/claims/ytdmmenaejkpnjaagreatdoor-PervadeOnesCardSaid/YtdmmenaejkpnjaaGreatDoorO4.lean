/-
  Texts of this seat, laid together.
-/
import Derived.Lib.ItoaNum
import Derived.IntWalk
import Derived.WalkKit
import Derived.WalkSpells
import Derived.Deep.Draws
import Derived.Lib.Hide
import Derived.Lib.TrimByte
import Derived.WalkLawsBesides
import Derived.Laws.CopyOwn
import Derived.Deep.QuietTactic
import Derived.BigQuiet
import Derived.BigRegion
import Derived.RegionTactic
import Derived.Deep.RegionWith
import Derived.StillTailTactics
import Derived.Deep.RegionHeld3
import Derived.Below
import Derived.Laws.OwnMore
import Derived.Laws.StructEq
import Derived.Deep.MidRow
import Derived.Deep.AppendLies
import Derived.Deep.RegionLaw
import Derived.Lib.AppendZeros
import Derived.Laws.AppendOwnNone
import Derived.Shelf.Abstract
import Derived.Lib.SliceRun
import Derived.Lib.Walk
import Derived.Laws.EntriesVeiled
import Derived.ChangeKeysEq
import Derived.Test.YtdmmenaejkpnjaaGreatDoorO3
set_option maxHeartbeats 12800000
set_option maxRecDepth 100000
set_option linter.unusedSimpArgs false
set_option linter.unusedVariables false
namespace Go.Proofs.YtdmmenaejkpnjaaGreatDoor
open Go.RowKit
attribute [local go_sem ↓] Go.wp_at_zero Go.wp_at_succ
set_option linter.unusedVariables false
set_option linter.unusedSimpArgs false
theorem map_43 (a : Option Addr) (n c : Nat) (m : Bool) (a2 : Option Addr) (n2 c2 : Nat) (P : Int) (Q : Nat) (l : Int) (w : World) (h : RatAt w a n c m a2 n2 c2 P Q) (hQ : 0 < Q) (hg : Nat.gcd P.natAbs Q = 1) (K : Nat) (hK : K <= 1000) (h1 : P.natAbs < 4294967296 ^ K) (h2 : Q < 4294967296 ^ K) :
    Calls Tryz.prog 148 #[.int .i32 43,.agg #[.slice a n c,.bool m,.slice a2 n2 c2],.int .i64 l] w fun e w'=>RatTold4 w w' e P Q 0:=by
 have BB:=Lib.hid ((((Bag.start w).rat h).box3 (.slice a n c) (.bool m) (.slice a2 n2 c2) 53).box3 (.slice a n c) (.bool m) (.slice a2 n2 c2) 53);simp only[World.size_alloc]at BB;have⟨q0,q1,q2⟩:=BB.out.now.2.1.c3;clear h hQ hg hK h1 h2;go_enter Tryz.func148,Tryz.ntmps148;have hz0:=BB.out.below;have HE:Hid (RatTold4 w _ (.returned (.tuple #[.agg #[.slice a n c,.bool m,.slice a2 n2 c2],.int .i64 0])) _ _ 0):=Lib.hid ⟨_,_,_,_,_,_,_,rfl,BB.out.now.2.2.1,hz0⟩;clear hz0;have hs:=BB.out.now.1;have⟨u0,u1,u2,g0,g1,g2⟩:=hs.s6;clear hs;go_wp2;exact bodyPost_ret (v:=.tuple #[.agg #[.slice a n c,.bool m,.slice a2 n2 c2],.int .i64 0]) (by simp[results,Tryz.results148,go_sem]) rfl HE.out
theorem map_45 (a : Option Addr) (n c : Nat) (m : Bool) (a2 : Option Addr) (n2 c2 : Nat) (P : Int) (Q : Nat) (l : Int) (w : World) (h : RatAt w a n c m a2 n2 c2 P Q) (hQ : 0 < Q) (hg : Nat.gcd P.natAbs Q = 1) (K : Nat) (hK : K <= 1000) (h1 : P.natAbs < 4294967296 ^ K) (h2 : Q < 4294967296 ^ K) :
    Calls Tryz.prog 148 #[.int .i32 45,.agg #[.slice a n c,.bool m,.slice a2 n2 c2],.int .i64 l] w fun e w'=>RatTold4 w w' e (-P) Q 0:=by
 have MN:=Lib.hid (fun wz h=>ratMinus_any a n c m a2 n2 c2 P Q wz h);have BB:=Lib.hid ((((Bag.start w).rat h).box3 (.slice a n c) (.bool m) (.slice a2 n2 c2) 53).box3 (.slice none 0 0) (.bool false) (.slice none 0 0) 53);simp only[World.size_alloc]at BB;have⟨q0,q1,q2⟩:=BB.out.now.2.1.c3;clear h hQ hg hK h1 h2;go_enter Tryz.func148,Tryz.ntmps148;go_wp2_with fail;go_at_call 179;refine(MN.out _ BB.out.now.2.2.1).mono ?_;rintro e w2 ⟨a3,n3,c3,m3,a4,n4,c4,rfl,hr,hb2⟩;have BB:=bgo BB hb2;clear hb2;have hs:=BB.out.now.1;have⟨u0,u1,u2,g0,g1,g2⟩:=hs.s6;have HS:=hs.set (.slice a3 n3 c3) (.bool m3) (.slice a4 n4 c4);have HE:=Lib.hid (RatTold4.done 0 BB.out.below (by omega) hs hr);clear hs;go_wp2;exact bodyPost_ret (by simp[results,Tryz.results148,go_sem,HS]) rfl HE.out
theorem map_215 (a : Option Addr) (n c : Nat) (m : Bool) (a2 : Option Addr) (n2 c2 : Nat) (P : Int) (Q : Nat) (l : Int) (w : World) (h : RatAt w a n c m a2 n2 c2 P Q) (hQ : 0 < Q) (hg : Nat.gcd P.natAbs Q = 1) (K : Nat) (hK : K <= 1000) (h1 : P.natAbs < 4294967296 ^ K) (h2 : Q < 4294967296 ^ K) :
    Calls Tryz.prog 148 #[.int .i32 215,.agg #[.slice a n c,.bool m,.slice a2 n2 c2],.int .i64 l] w fun e w'=>RatTold4 w w' e (sgnI P) 1 0:=by
 have SG:=Lib.hid (fun wz h=>ratSign_any a n c m a2 n2 c2 P Q wz h);have hsg : -1<=sgnI P/\sgnI P<=1:=by unfold sgnI;split<;>(try split)<;>omega
 have FR:=Lib.hid (fun wz=>ratFrom_any (sgnI P) wz (by omega));generalize sgnI P=sg at *;clear hsg;have BB:=Lib.hid ((((Bag.start w).rat h).box3 (.slice a n c) (.bool m) (.slice a2 n2 c2) 53).box3 (.slice none 0 0) (.bool false) (.slice none 0 0) 53);simp only[World.size_alloc]at BB;have⟨q0,q1,q2⟩:=BB.out.now.2.1.c3;clear h hQ hg hK h1 h2;go_enter Tryz.func148,Tryz.ntmps148;go_wp2_with fail;go_at_call 72;refine(SG.out _ BB.out.now.2.2.1).mono ?_;rintro e w2 ⟨rfl,hb2⟩;have BB:=bgo BB hb2;clear hb2;go_wp2_with fail;go_at_call 56;refine(FR.out _).mono ?_;rintro e w3 ⟨a3,n3,c3,m3,a4,n4,c4,rfl,hr,hb3⟩;have BB:=bgo BB hb3;clear hb3;have hs:=BB.out.now.1;have⟨u0,u1,u2,g0,g1,g2⟩:=hs.s6;have HS:=hs.set (.slice a3 n3 c3) (.bool m3) (.slice a4 n4 c4);have HE:=Lib.hid (RatTold4.done 0 BB.out.below (by omega) hs hr);clear hs;go_wp2;exact bodyPost_ret (by simp[results,Tryz.results148,go_sem,HS]) rfl HE.out
theorem map_247 (a : Option Addr) (n c : Nat) (m : Bool) (a2 : Option Addr) (n2 c2 : Nat) (P : Int) (Q : Nat) (l : Int) (w : World) (h : RatAt w a n c m a2 n2 c2 P Q) (hQ : 0 < Q) (hg : Nat.gcd P.natAbs Q = 1) (K : Nat) (hK : K <= 1000) (h1 : P.natAbs < 4294967296 ^ K) (h2 : Q < 4294967296 ^ K) :
    Calls Tryz.prog 148 #[.int .i32 247,.agg #[.slice a n c,.bool m,.slice a2 n2 c2],.int .i64 l] w fun e w'=>RatTold4 w w' e (if P=0 then 0 else upZ Q P) (if P=0 then 1 else P.natAbs) (if P=0 then 22 else 0):=by
 have RC:=Lib.hid (fun wz h=>mrec_any a n c m a2 n2 c2 P Q wz h hQ hg K hK h1 h2);generalize (if P=0 then 0 else upZ Q P)=UP at *;generalize (if P=0 then 1 else P.natAbs)=UQ at *;generalize (if P=0 then(22:Int)else 0)=UE at *;have BB:=Lib.hid ((((Bag.start w).rat h).box3 (.slice a n c) (.bool m) (.slice a2 n2 c2) 53).box3 (.slice none 0 0) (.bool false) (.slice none 0 0) 53);simp only[World.size_alloc]at BB;have⟨q0,q1,q2⟩:=BB.out.now.2.1.c3;clear h hQ hg hK h1 h2;go_enter Tryz.func148,Tryz.ntmps148;go_wp2_with fail;go_at_call 204;refine(RC.out _ BB.out.now.2.2.1).mono ?_;rintro e w2 ⟨a3,n3,c3,m3,a4,n4,c4,rfl,hr,hb2⟩;have BB:=bgo BB hb2;clear hb2;have hs:=BB.out.now.1;have⟨u0,u1,u2,g0,g1,g2⟩:=hs.s6;have HS:=hs.set (.slice a3 n3 c3) (.bool m3) (.slice a4 n4 c4);have HE:=Lib.hid (RatTold4.done UE BB.out.below (by omega) hs hr);clear hs;go_wp2;exact bodyPost_ret (by simp[results,Tryz.results148,go_sem,HS]) rfl HE.out
theorem map_8968 (a : Option Addr) (n c : Nat) (m : Bool) (a2 : Option Addr) (n2 c2 : Nat) (P : Int) (Q : Nat) (l : Int) (w : World) (h : RatAt w a n c m a2 n2 c2 P Q) (hQ : 0 < Q) (hg : Nat.gcd P.natAbs Q = 1) (K : Nat) (hK : K <= 1000) (h1 : P.natAbs < 4294967296 ^ K) (h2 : Q < 4294967296 ^ K) :
    Calls Tryz.prog 148 #[.int .i32 8968,.agg #[.slice a n c,.bool m,.slice a2 n2 c2],.int .i64 l] w fun e w'=>RatTold4 w w' e (-(flQ (-P) Q)) 1 0:=by
 have CE:=Lib.hid (fun wz h=>ratCeil_any a n c m a2 n2 c2 P Q wz h hQ K (by omega) h1);have WH:=Lib.hid (fun a n c m wz (h:IntAt wz a n c m (-(flQ (-P) Q)))=>whole_any a n c m (-(flQ (-P) Q)) wz h);generalize (-(flQ (-P) Q))=Z at *;have BB:=Lib.hid ((((Bag.start w).rat h).box3 (.slice a n c) (.bool m) (.slice a2 n2 c2) 53).box3 (.slice none 0 0) (.bool false) (.slice none 0 0) 53);simp only[World.size_alloc]at BB;have⟨q0,q1,q2⟩:=BB.out.now.2.1.c3;clear h hQ hg hK h1 h2;go_enter Tryz.func148,Tryz.ntmps148;go_wp2_with fail;go_at_call 205;refine(CE.out _ BB.out.now.2.2.1).mono ?_;rintro e w2 ⟨a5,n5,c5,m5,rfl,hi,hb2⟩;have BB:=bgo BB hb2;clear hb2;go_wp2_with fail;go_at_call 117;refine(WH.out _ _ _ _ _ hi).mono ?_;rintro e w3 ⟨a3,n3,c3,m3,a4,n4,c4,rfl,hr,hb3⟩;have BB:=bgo BB hb3;clear hb3 hi;have hs:=BB.out.now.1;have⟨u0,u1,u2,g0,g1,g2⟩:=hs.s6;have HS:=hs.set (.slice a3 n3 c3) (.bool m3) (.slice a4 n4 c4);have HE:=Lib.hid (RatTold4.done 0 BB.out.below (by omega) hs hr);clear hs;go_wp2;exact bodyPost_ret (by simp[results,Tryz.results148,go_sem,HS]) rfl HE.out
theorem map_8970 (a : Option Addr) (n c : Nat) (m : Bool) (a2 : Option Addr) (n2 c2 : Nat) (P : Int) (Q : Nat) (l : Int) (w : World) (h : RatAt w a n c m a2 n2 c2 P Q) (hQ : 0 < Q) (hg : Nat.gcd P.natAbs Q = 1) (K : Nat) (hK : K <= 1000) (h1 : P.natAbs < 4294967296 ^ K) (h2 : Q < 4294967296 ^ K) :
    Calls Tryz.prog 148 #[.int .i32 8970,.agg #[.slice a n c,.bool m,.slice a2 n2 c2],.int .i64 l] w fun e w'=>RatTold4 w w' e (flQ P Q) 1 0:=by
 have CE:=Lib.hid (fun wz h=>ratFloor_any a n c m a2 n2 c2 P Q wz h hQ K (by omega) h1);have WH:=Lib.hid (fun a n c m wz (h:IntAt wz a n c m (flQ P Q))=>whole_any a n c m (flQ P Q) wz h);generalize (flQ P Q)=Z at *;have BB:=Lib.hid ((((Bag.start w).rat h).box3 (.slice a n c) (.bool m) (.slice a2 n2 c2) 53).box3 (.slice none 0 0) (.bool false) (.slice none 0 0) 53);simp only[World.size_alloc]at BB;have⟨q0,q1,q2⟩:=BB.out.now.2.1.c3;clear h hQ hg hK h1 h2;go_enter Tryz.func148,Tryz.ntmps148;go_wp2_with fail;go_at_call 206;refine(CE.out _ BB.out.now.2.2.1).mono ?_;rintro e w2 ⟨a5,n5,c5,m5,rfl,hi,hb2⟩;have BB:=bgo BB hb2;clear hb2;go_wp2_with fail;go_at_call 117;refine(WH.out _ _ _ _ _ hi).mono ?_;rintro e w3 ⟨a3,n3,c3,m3,a4,n4,c4,rfl,hr,hb3⟩;have BB:=bgo BB hb3;clear hb3 hi;have hs:=BB.out.now.1;have⟨u0,u1,u2,g0,g1,g2⟩:=hs.s6;have HS:=hs.set (.slice a3 n3 c3) (.bool m3) (.slice a4 n4 c4);have HE:=Lib.hid (RatTold4.done 0 BB.out.below (by omega) hs hr);clear hs;go_wp2;exact bodyPost_ret (by simp[results,Tryz.results148,go_sem,HS]) rfl HE.out
theorem map_124 (a : Option Addr) (n c : Nat) (m : Bool) (a2 : Option Addr) (n2 c2 : Nat) (P : Int) (Q : Nat) (l : Int) (w : World) (h : RatAt w a n c m a2 n2 c2 P Q) (hQ : 0 < Q) (hg : Nat.gcd P.natAbs Q = 1) (K : Nat) (hK : K <= 1000) (h1 : P.natAbs < 4294967296 ^ K) (h2 : Q < 4294967296 ^ K) :
    Calls Tryz.prog 148 #[.int .i32 124,.agg #[.slice a n c,.bool m,.slice a2 n2 c2],.int .i64 l] w fun e w'=>RatTold4 w w' e (P.natAbs:Nat) Q 0:=by
 have SZ:=Lib.hid (fun wz h=>msize_any a n c m a2 n2 c2 P Q wz h);generalize ((P.natAbs:Nat):Int)=Z at *;have BB:=Lib.hid ((((Bag.start w).rat h).box3 (.slice a n c) (.bool m) (.slice a2 n2 c2) 53).box3 (.slice none 0 0) (.bool false) (.slice none 0 0) 53);simp only[World.size_alloc]at BB;have⟨q0,q1,q2⟩:=BB.out.now.2.1.c3;clear h hQ hg hK h1 h2;go_enter Tryz.func148,Tryz.ntmps148;go_wp2_with fail;go_at_call 207;refine(SZ.out _ BB.out.now.2.2.1).mono ?_;rintro e w2 ⟨a3,n3,c3,m3,a4,n4,c4,rfl,hr,hb2⟩;have BB:=bgo BB hb2;clear hb2;have hs:=BB.out.now.1;have⟨u0,u1,u2,g0,g1,g2⟩:=hs.s6;have HS:=hs.set (.slice a3 n3 c3) (.bool m3) (.slice a4 n4 c4);have HE:=Lib.hid (RatTold4.done 0 BB.out.below (by omega) hs hr);clear hs;go_wp2;exact bodyPost_ret (by simp[results,Tryz.results148,go_sem,HS]) rfl HE.out
theorem map_33 (a : Option Addr) (n c : Nat) (m : Bool) (a2 : Option Addr) (n2 c2 : Nat) (P : Int) (Q : Nat) (l : Int) (w : World) (h : RatAt w a n c m a2 n2 c2 P Q) (hQ : 0 < Q) (hg : Nat.gcd P.natAbs Q = 1) (K : Nat) (hK : K <= 1000) (h1 : P.natAbs < 4294967296 ^ K) (h2 : Q < 4294967296 ^ K) (hl : l <= 64) :
    Calls Tryz.prog 148 #[.int .i32 33,.agg #[.slice a n c,.bool m,.slice a2 n2 c2],.int .i64 l] w fun e w'=>∃P' Q' E',RatTold4 w w' e P' Q' E'/\Fits 33 P Q l P' Q' E':=by
 have FA:=Lib.hid (fun wz h=>mfac_any a n c m a2 n2 c2 P Q l wz h hQ hl);clear hl;have BB:=Lib.hid ((((Bag.start w).rat h).box3 (.slice a n c) (.bool m) (.slice a2 n2 c2) 53).box3 (.slice none 0 0) (.bool false) (.slice none 0 0) 53);simp only[World.size_alloc]at BB;have⟨q0,q1,q2⟩:=BB.out.now.2.1.c3;clear h hQ hg hK h1 h2;go_enter Tryz.func148,Tryz.ntmps148;go_wp2_with fail;go_at_call 208;refine(FA.out _ BB.out.now.2.2.1).mono ?_;rintro e w2 ⟨P9,Q9,E9,⟨a3,n3,c3,m3,a4,n4,c4,rfl,hr,hb2⟩,hf⟩;have BB:=bgo BB hb2;clear hb2;have HF:=Lib.hid hf;clear hf;have hs:=BB.out.now.1;have⟨u0,u1,u2,g0,g1,g2⟩:=hs.s6;have HS:=hs.set (.slice a3 n3 c3) (.bool m3) (.slice a4 n4 c4);have HE:=Lib.hid (RatTold4.done E9 BB.out.below (by omega) hs hr);clear hs;go_wp2;exact bodyPost_ret (v:=.tuple #[.agg #[.slice a3 n3 c3,.bool m3,.slice a4 n4 c4],.int .i64 E9]) (by simp[results,Tryz.results148,go_sem,HS]) rfl ⟨_,_,_,HE.out,HF.out⟩
theorem map_42 (a : Option Addr) (n c : Nat) (m : Bool) (a2 : Option Addr) (n2 c2 : Nat) (P : Int) (Q : Nat) (l : Int) (w : World) (h : RatAt w a n c m a2 n2 c2 P Q) (hQ : 0 < Q) (hg : Nat.gcd P.natAbs Q = 1) (K : Nat) (hK : K <= 1000) (h1 : P.natAbs < 4294967296 ^ K) (h2 : Q < 4294967296 ^ K) :
    Calls Tryz.prog 148 #[.int .i32 42,.agg #[.slice a n c,.bool m,.slice a2 n2 c2],.int .i64 l] w fun e w'=>RatTold4 w w' e 0 1 22:=by
 have BB:=Lib.hid ((((Bag.start w).rat h).box3 (.slice a n c) (.bool m) (.slice a2 n2 c2) 53).box3 (.slice none 0 0) (.bool false) (.slice none 0 0) 53);simp only[World.size_alloc]at BB;have⟨q0,q1,q2⟩:=BB.out.now.2.1.c3;clear h hQ hg hK h1 h2;go_enter Tryz.func148,Tryz.ntmps148;have hz0:=BB.out.below;have HE:Hid (RatTold4 w _ (.returned (.tuple #[.agg #[.slice none 0 0,.bool false,.slice none 0 0],.int .i64 22])) _ _ 22):=Lib.hid ⟨_,_,_,_,_,_,_,rfl,(RatAt.zero _),hz0⟩;clear hz0;have hs:=BB.out.now.1;have⟨u0,u1,u2,g0,g1,g2⟩:=hs.s6;clear hs;go_wp2;exact bodyPost_ret (v:=.tuple #[.agg #[.slice none 0 0,.bool false,.slice none 0 0],.int .i64 22]) (by simp[results,Tryz.results148,go_sem]) rfl HE.out
theorem map_9055 (a : Option Addr) (n c : Nat) (m : Bool) (a2 : Option Addr) (n2 c2 : Nat) (P : Int) (Q : Nat) (l : Int) (w : World) (h : RatAt w a n c m a2 n2 c2 P Q) (hQ : 0 < Q) (hg : Nat.gcd P.natAbs Q = 1) (K : Nat) (hK : K <= 1000) (h1 : P.natAbs < 4294967296 ^ K) (h2 : Q < 4294967296 ^ K) :
    Calls Tryz.prog 148 #[.int .i32 9055,.agg #[.slice a n c,.bool m,.slice a2 n2 c2],.int .i64 l] w fun e w'=>RatTold4 w w' e 0 1 22:=by
 have BB:=Lib.hid ((((Bag.start w).rat h).box3 (.slice a n c) (.bool m) (.slice a2 n2 c2) 53).box3 (.slice none 0 0) (.bool false) (.slice none 0 0) 53);simp only[World.size_alloc]at BB;have⟨q0,q1,q2⟩:=BB.out.now.2.1.c3;clear h hQ hg hK h1 h2;go_enter Tryz.func148,Tryz.ntmps148;have hz0:=BB.out.below;have HE:Hid (RatTold4 w _ (.returned (.tuple #[.agg #[.slice none 0 0,.bool false,.slice none 0 0],.int .i64 22])) _ _ 22):=Lib.hid ⟨_,_,_,_,_,_,_,rfl,(RatAt.zero _),hz0⟩;clear hz0;have hs:=BB.out.now.1;have⟨u0,u1,u2,g0,g1,g2⟩:=hs.s6;clear hs;go_wp2;exact bodyPost_ret (v:=.tuple #[.agg #[.slice none 0 0,.bool false,.slice none 0 0],.int .i64 22]) (by simp[results,Tryz.results148,go_sem]) rfl HE.out
theorem map_9675 (a : Option Addr) (n c : Nat) (m : Bool) (a2 : Option Addr) (n2 c2 : Nat) (P : Int) (Q : Nat) (l : Int) (w : World) (h : RatAt w a n c m a2 n2 c2 P Q) (hQ : 0 < Q) (hg : Nat.gcd P.natAbs Q = 1) (K : Nat) (hK : K <= 1000) (h1 : P.natAbs < 4294967296 ^ K) (h2 : Q < 4294967296 ^ K) :
    Calls Tryz.prog 148 #[.int .i32 9675,.agg #[.slice a n c,.bool m,.slice a2 n2 c2],.int .i64 l] w fun e w'=>RatTold4 w w' e 0 1 22:=by
 have BB:=Lib.hid ((((Bag.start w).rat h).box3 (.slice a n c) (.bool m) (.slice a2 n2 c2) 53).box3 (.slice none 0 0) (.bool false) (.slice none 0 0) 53);simp only[World.size_alloc]at BB;have⟨q0,q1,q2⟩:=BB.out.now.2.1.c3;clear h hQ hg hK h1 h2;go_enter Tryz.func148,Tryz.ntmps148;have hz0:=BB.out.below;have HE:Hid (RatTold4 w _ (.returned (.tuple #[.agg #[.slice none 0 0,.bool false,.slice none 0 0],.int .i64 22])) _ _ 22):=Lib.hid ⟨_,_,_,_,_,_,_,rfl,(RatAt.zero _),hz0⟩;clear hz0;have hs:=BB.out.now.1;have⟨u0,u1,u2,g0,g1,g2⟩:=hs.s6;clear hs;go_wp2;exact bodyPost_ret (v:=.tuple #[.agg #[.slice none 0 0,.bool false,.slice none 0 0],.int .i64 22]) (by simp[results,Tryz.results148,go_sem]) rfl HE.out
theorem mapplied_any (c0 : Int) (a : Option Addr) (n c : Nat) (m : Bool) (a2 : Option Addr) (n2 c2 : Nat) (P : Int) (Q : Nat) (l : Int) (w : World) (h : RatAt w a n c m a2 n2 c2 P Q) (hQ : 0 < Q) (hg : Nat.gcd P.natAbs Q = 1) (K : Nat) (hK : K <= 1000) (h1 : P.natAbs < 4294967296 ^ K) (h2 : Q < 4294967296 ^ K) (hl : l <= 64) (hc : hasO c0 = true) (hn : c0 ≠ 126) :
    Calls Tryz.prog 148 #[.int .i32 c0,.agg #[.slice a n c,.bool m,.slice a2 n2 c2],.int .i64 l] w fun e w'=>∃P' Q' E',RatTold4 w w' e P' Q' E'/\Fits c0 P Q l P' Q' E':=by
 have hc2:=of_decide_eq_true hc
 rcases hc2 with rfl|rfl|rfl|rfl|rfl|rfl|rfl|rfl|rfl|rfl|rfl|rfl
 · exact(map_43 a n c m a2 n2 c2 P Q l w h hQ hg K hK h1 h2).mono (fun e w' q=>⟨_,_,_,q,fits_ok (c:=43) (by decide) (by decide) (by unfold aN;simp) (hQ)⟩)
 · exact(map_45 a n c m a2 n2 c2 P Q l w h hQ hg K hK h1 h2).mono (fun e w' q=>⟨_,_,_,q,fits_ok (c:=45) (by decide) (by decide) (by unfold aN;simp) (hQ)⟩)
 · exact(map_124 a n c m a2 n2 c2 P Q l w h hQ hg K hK h1 h2).mono (fun e w' q=>⟨_,_,_,q,fits_ok (c:=124) (by decide) (by decide) (by unfold aN;simp) (hQ)⟩)
 · exact(map_42 a n c m a2 n2 c2 P Q l w h hQ hg K hK h1 h2).mono (fun e w' q=>⟨_,_,_,q,fits_no (c:=42) (by decide) (by decide) (by unfold aN;simp)⟩)
 · exact map_33 a n c m a2 n2 c2 P Q l w h hQ hg K hK h1 h2 hl
 · exact absurd rfl hn
 · exact(map_215 a n c m a2 n2 c2 P Q l w h hQ hg K hK h1 h2).mono (fun e w' q=>⟨_,_,_,q,fits_ok (c:=215) (by decide) (by decide) (by unfold aN;simp) (Nat.one_pos)⟩)
 · by_cases hP:P=0
   · have:=map_247 a n c m a2 n2 c2 P Q l w h hQ hg K hK h1 h2;rw[if_pos hP,if_pos hP,if_pos hP]at this;exact this.mono (fun e w' q=>⟨_,_,_,q,fits_no (c:=247) (by decide) (by decide) (by unfold aN;simp[hP])⟩)
   · have:=map_247 a n c m a2 n2 c2 P Q l w h hQ hg K hK h1 h2;rw[if_neg hP,if_neg hP,if_neg hP]at this;exact this.mono (fun e w' q=>⟨_,_,_,q,fits_ok (c:=247) (P:=P) (Q:=Q) (by decide) (by decide) (by unfold aN;simp[hP]) (show 0<P.natAbs by omega)⟩)
 · exact(map_8968 a n c m a2 n2 c2 P Q l w h hQ hg K hK h1 h2).mono (fun e w' q=>⟨_,_,_,q,fits_ok (c:=8968) (by decide) (by decide) (by unfold aN;simp) (Nat.one_pos)⟩)
 · exact(map_8970 a n c m a2 n2 c2 P Q l w h hQ hg K hK h1 h2).mono (fun e w' q=>⟨_,_,_,q,fits_ok (c:=8970) (by decide) (by decide) (by unfold aN;simp) (Nat.one_pos)⟩)
 · exact(map_9055 a n c m a2 n2 c2 P Q l w h hQ hg K hK h1 h2).mono (fun e w' q=>⟨_,_,_,q,fits_no (c:=9055) (by decide) (by decide) (by unfold aN;simp)⟩)
 · exact(map_9675 a n c m a2 n2 c2 P Q l w h hQ hg K hK h1 h2).mono (fun e w' q=>⟨_,_,_,q,fits_no (c:=9675) (by decide) (by decide) (by unfold aN;simp)⟩)
theorem oPQ_no{c P:Int}{Q:Nat}{l:Int}(h:oE c P Q l≠0):oP c P Q l=0/\oQ c P Q l=1:=by
 unfold oP oQ;rw[if_neg h,if_neg h];exact⟨rfl,rfl⟩
theorem mone_any (c0 : Int) (a : Option Addr) (n c : Nat) (m : Bool) (a2 : Option Addr) (n2 c2 : Nat) (P : Int) (Q : Nat) (l : Int) (w : World) (h : RatAt w a n c m a2 n2 c2 P Q) (hQ : 0 < Q) (hg : Nat.gcd P.natAbs Q = 1) (K : Nat) (hK : K <= 1000) (h1 : P.natAbs < 4294967296 ^ K) (h2 : Q < 4294967296 ^ K) (hl : l <= 64) :
    Calls Tryz.prog 81 #[.int .i32 c0,.agg #[.slice a n c,.bool m,.slice a2 n2 c2],.int .i64 l] w fun e w'=>RatTold4 w w' e (oP c0 P Q l) (oQ c0 P Q l) (oE c0 P Q l):=by
 have HA:=Lib.hid (fun wz=>mhas_any c0 wz)
 cases hc:hasO c0 with
 | false =>
  have hE:oE c0 P Q l=20:=by
   unfold oE;rw[if_pos hc]
  obtain⟨e1,e2⟩:=oPQ_no (c:=c0) (P:=P) (Q:=Q) (l:=l) (by rw[hE];decide);rw[hE,e1,e2];rw[hc]at HA;have BB:=Lib.hid ((((Bag.start w).rat h).box3 (.slice a n c) (.bool m) (.slice a2 n2 c2) 53).box3 (.slice none 0 0) (.bool false) (.slice none 0 0) 53);simp only[World.size_alloc]at BB;clear h hQ hg hK h1 h2 hc hE e1 e2 hl;go_enter Tryz.func81,Tryz.ntmps81;go_wp2_with fail;go_at_call 77;refine(HA.out _).mono ?_;rintro e w2 ⟨rfl,hb2⟩;have BB:=bgo BB hb2;clear hb2;have hs:=BB.out.now.1;have⟨u0,u1,u2,g0,g1,g2⟩:=hs.s6;have HS:=hs.set (.slice none 0 0) (.bool false) (.slice none 0 0);have HE:=Lib.hid (RatTold4.done 20 BB.out.below (by omega) hs (RatAt.zero _));clear hs;go_wp2;exact bodyPost_ret (by simp[results,Tryz.results81,go_sem,HS]) rfl HE.out
 | true =>
  rw[hc]at HA
  by_cases h126:c0=126
  · subst h126; have hd : ((126 : Int) == 126) = true := rfl
    by_cases hq:Q=1/\(P=0∨P=1)
    · have hE:oE 126 P Q l=0:=by
        unfold oE;rw[if_neg (by decide),if_pos rfl,if_pos hq]
      have e1:oP 126 P Q l=1-P:=by
       unfold oP;rw[if_pos hE,if_pos rfl]
      have e2:oQ 126 P Q l=1:=by
       unfold oQ;rw[if_pos hE,if_pos rfl]
      rw[hE,e1,e2];have NO:=Lib.hid (fun wz h=>mnot_yes a n c m a2 n2 c2 P Q wz h hq.1 hq.2);generalize 1-P=Z at *;have BB:=Lib.hid ((((Bag.start w).rat h).box3 (.slice a n c) (.bool m) (.slice a2 n2 c2) 53).box3 (.slice none 0 0) (.bool false) (.slice none 0 0) 53);simp only[World.size_alloc]at BB;clear h hQ hg hK h1 h2 hc hE e1 e2 hl hd hq;go_enter Tryz.func81,Tryz.ntmps81;go_wp2_with fail;go_at_call 77;refine(HA.out _).mono ?_;rintro e w2 ⟨rfl,hb2⟩;have BB:=bgo BB hb2;clear hb2;have⟨q0,q1,q2⟩:=BB.out.now.2.1.c3;go_wp2_with fail;go_at_call 147;refine(NO.out _ BB.out.now.2.2.1).mono ?_;rintro e w3 ⟨a3,n3,c3,m3,a4,n4,c4,rfl,hr,hb3⟩;have BB:=bgo BB hb3;clear hb3;have hs:=BB.out.now.1;have⟨u0,u1,u2,g0,g1,g2⟩:=hs.s6;have HS:=hs.set (.slice a3 n3 c3) (.bool m3) (.slice a4 n4 c4);have HE:=Lib.hid (RatTold4.done 0 BB.out.below (by omega) hs hr);clear hs;go_wp2;exact bodyPost_ret (by simp[results,Tryz.results81,go_sem,HS]) rfl HE.out
    · have hE:oE 126 P Q l=22:=by
        unfold oE;rw[if_neg (by decide),if_pos rfl,if_neg hq]
      obtain⟨e1,e2⟩:=oPQ_no (c:=126) (P:=P) (Q:=Q) (l:=l) (by rw[hE];decide);rw[hE,e1,e2];have NO:=Lib.hid (fun wz h=>mnot_no a n c m a2 n2 c2 P Q wz h hQ hq);have BB:=Lib.hid ((((Bag.start w).rat h).box3 (.slice a n c) (.bool m) (.slice a2 n2 c2) 53).box3 (.slice none 0 0) (.bool false) (.slice none 0 0) 53);simp only[World.size_alloc]at BB;clear h hQ hg hK h1 h2 hc hE e1 e2 hl hd hq;go_enter Tryz.func81,Tryz.ntmps81;go_wp2_with fail;go_at_call 77;refine(HA.out _).mono ?_;rintro e w2 ⟨rfl,hb2⟩;have BB:=bgo BB hb2;clear hb2;have⟨q0,q1,q2⟩:=BB.out.now.2.1.c3;go_wp2_with fail;go_at_call 147;refine(NO.out _ BB.out.now.2.2.1).mono ?_;rintro e w3 ⟨a3,n3,c3,m3,a4,n4,c4,rfl,hr,hb3⟩;have BB:=bgo BB hb3;clear hb3;have hs:=BB.out.now.1;have⟨u0,u1,u2,g0,g1,g2⟩:=hs.s6;have HS:=hs.set (.slice a3 n3 c3) (.bool m3) (.slice a4 n4 c4);have HE:=Lib.hid (RatTold4.done 22 BB.out.below (by omega) hs hr);clear hs;go_wp2;exact bodyPost_ret (by simp[results,Tryz.results81,go_sem,HS]) rfl HE.out
  · have AP:=Lib.hid (fun wz h=>mapplied_any c0 a n c m a2 n2 c2 P Q l wz h hQ hg K hK h1 h2 hl hc h126);have hmin:min l 64=l:=by omega
    have dc:(c0==126)=false:=beq_eq_false_iff_ne.2 h126;obtain⟨PP,hPP⟩:∃z,oP c0 P Q l=z:=⟨_,rfl⟩
    obtain⟨QQ,hQQ⟩:∃z,oQ c0 P Q l=z:=⟨_,rfl⟩
    obtain⟨EE,hEE⟩:∃z,oE c0 P Q l=z:=⟨_,rfl⟩
    have HNO:=Lib.hid (fun h:EE≠0=>(oPQ_no (c:=c0) (P:=P) (Q:=Q) (l:=l) (by rw[hEE];exact h)));unfold Fits at AP;rw[hPP,hQQ]at HNO;rw[hPP,hQQ,hEE];simp only[hPP,hQQ,hEE]at AP;clear hPP hQQ hEE;have BB:=Lib.hid ((((Bag.start w).rat h).box3 (.slice a n c) (.bool m) (.slice a2 n2 c2) 53).box3 (.slice none 0 0) (.bool false) (.slice none 0 0) 53);simp only[World.size_alloc]at BB;have⟨q0,q1,q2⟩:=BB.out.now.2.1.c3;clear h hQ hg hK h1 h2 hc hl h126;go_enter Tryz.func81,Tryz.ntmps81;go_wp2_with fail;go_at_call 77;refine(HA.out _).mono ?_;rintro e w2 ⟨rfl,hb2⟩;have BB:=bgo BB hb2;clear hb2;have⟨q0,q1,q2⟩:=BB.out.now.2.1.c3;go_wp2_with fail;go_at_call 148;refine(AP.out _ BB.out.now.2.2.1).mono ?_;rintro e w3 ⟨P9,Q9,E9,⟨a3,n3,c3,m3,a4,n4,c4,rfl,hr,hb3⟩,hQ9,h3,hne,heq⟩;have BB:=Lib.hid (((BB.out.go hb3).rat hr).box3 (.slice a3 n3 c3) (.bool m3) (.slice a4 n4 c4) 53);clear hb3 hr
    by_cases hE9:E9=0
    · subst hE9;have heq:=heq rfl;have LM:=Lib.hid (fun wz h=>ratLimbs_any a3 n3 c3 m3 a4 n4 c4 P9 Q9 wz h hQ9);have LM:Hid (∀wz,RatAt wz a3 n3 c3 m3 a4 n4 c4 P9 Q9->Calls Tryz.prog 126 #[.agg #[.slice a3 n3 c3,.bool m3,.slice a4 n4 c4]] wz fun e w'=>e=.returned (.int .i64 (limZ P9 Q9))/\Below wz.heap.size wz w'):=LM;obtain⟨LZ,hLZ⟩:∃z,limZ P9 Q9=z:=⟨_,rfl⟩
      rw[hLZ]at LM heq;clear hLZ h3 hne hQ9;have⟨r0,r1,r2⟩:=BB.out.now.1.c3
      by_cases hlt:l<LZ
      · rw[if_pos hlt]at heq;obtain⟨e1,e2⟩:=HNO.out (by rw[heq];decide);subst heq e1 e2;go_wp2_with fail;go_at_call 126;refine(LM.out _ BB.out.now.2.1).mono ?_;rintro e w4 ⟨rfl,hb4⟩;have BB:=bgo BB hb4;clear hb4;have hs:=BB.out.now.2.2.1;have⟨u0,u1,u2,g0,g1,g2⟩:=hs.s6;have HS:=hs.set (.slice none 0 0) (.bool false) (.slice none 0 0);have HE:=Lib.hid (RatTold4.done 26 BB.out.below (by omega) hs (RatAt.zero _));clear hs;go_wp2;exact bodyPost_ret (by simp[results,Tryz.results81,go_sem,HS]) rfl HE.out
      · rw[if_neg hlt]at heq;obtain⟨rfl,rfl,rfl⟩:=heq;go_wp2_with fail;go_at_call 126;refine(LM.out _ BB.out.now.2.1).mono ?_;rintro e w4 ⟨rfl,hb4⟩;have BB:=bgo BB hb4;clear hb4;have⟨r0,r1,r2⟩:=BB.out.now.1.c3;have hs:=BB.out.now.2.2.1;have⟨u0,u1,u2,g0,g1,g2⟩:=hs.s6;have HS:=hs.set (.slice a3 n3 c3) (.bool m3) (.slice a4 n4 c4);have HE:=Lib.hid (RatTold4.done 0 BB.out.below (by omega) hs BB.out.now.2.1);clear hs;go_wp2;exact bodyPost_ret (by simp[results,Tryz.results81,go_sem,HS]) rfl HE.out
    · have e0:=hne hE9;subst e0;obtain⟨e1,e2⟩:=HNO.out hE9;subst e1 e2;have dE:(EE != 0)=true:=bne_iff_ne.2 hE9;clear h3 hne heq hE9 hQ9 HNO;have hs:=BB.out.now.2.2.1;have⟨u0,u1,u2,g0,g1,g2⟩:=hs.s6;have HS:=hs.set (.slice none 0 0) (.bool false) (.slice none 0 0);have HE:=Lib.hid (RatTold4.done EE BB.out.below (by omega) hs (RatAt.zero _));clear hs;go_wp2;exact bodyPost_ret (by simp[results,Tryz.results81,go_sem,HS]) rfl HE.out
theorem ent_pone1:Enters Tryz.prog 80:=enters_of Tryz.func80 (by kernel_rfl) rfl
def FewN(fP:Nat->Int)(fQ:Nat->Nat)(L:Nat):Prop:=∀j,j<L->0<fQ j/\Nat.gcd (fP j).natAbs (fQ j)=1/\(fP j).natAbs<4294967296^7/\fQ j<4294967296^7
theorem pone1_any (c0 l : Int) (gc ga gl : Nat) (cs : Array Value) (S : Nat -> Int) (r L : Nat) (g fP : Nat -> Int) (fQ : Nat -> Nat) (w : World) (h : Arr w cs S r false L g fP fQ) (hok : FewN fP fQ L) (hl : l <= 64)
    (hc:w.cell? ⟨gc,0,none⟩=some (.int .i32 c0)) (hc1:gc<w.heap.size) (ha:Row w ga 36 cs) (hL:w.cell? ⟨gl,0,none⟩=some (.int .i64 l)) (hl1:gl<w.heap.size) :
    FGives 80 #[.pointer (some ⟨gc,0,none⟩),.pointer (some ⟨ga,0,none⟩),.pointer (some ⟨gl,0,none⟩)] (fun k=>oP c0 (fP k) (fQ k) l) (fun k=>oQ c0 (fP k) (fQ k) l) (fun k=>oE c0 (fP k) (fQ k) l) L w:=by
 intro wz hz k hlt
 show Calls Tryz.prog 80 #[.int .i64 (k:Nat),.pointer (some ⟨gc,0,none⟩),.pointer (some ⟨ga,0,none⟩),.pointer (some ⟨gl,0,none⟩)] wz _
 have hA:=h.below hz;have SZ:=Lib.hid h.size;have RA:=Lib.hid (fun wy (hb:Below wz.heap.size wz wy)=>rat8_any (hA.below hb) hlt);unfold RatTold at RA;obtain⟨q1,q2,q3,q4⟩:=hok k hlt;have ON:=Lib.hid (fun a n c m a2 n2 c2 wy (q:RatAt wy a n c m a2 n2 c2 (fP k) (fQ k))=>mone_any c0 a n c m a2 n2 c2 (fP k) (fQ k) l wy q q1 q2 7 (by omega) q3 q4 hl);unfold RatTold4 at ON;have x1:=(hz.cell (p:=⟨gc,0,none⟩) hc1).trans hc;have x2:=ha.below hz;have x3:=(hz.cell (p:=⟨gl,0,none⟩) hl1).trans hL;have HX:=Lib.hid (fun wy (hb:Below wz.heap.size wz wy)=>(show wy.cell? ⟨gc,0,none⟩=some (.int .i32 c0)/\Row wy ga 36 cs/\wy.cell? ⟨gl,0,none⟩=some (.int .i64 l)from⟨(hb.cell (p:=⟨gc,0,none⟩) (Nat.lt_of_lt_of_le hc1 hz.size)).trans x1,x2.below hb,(hb.cell (p:=⟨gl,0,none⟩) (Nat.lt_of_lt_of_le hl1 hz.size)).trans x3⟩));have BB:=Lib.hid ((Bag.start wz).box3 (.slice none 0 0) (.bool false) (.slice none 0 0) 53);obtain⟨oo,hoo⟩:∃z,oP c0 (fP k) (fQ k) l=z:=⟨_,rfl⟩
 obtain⟨uu,huu⟩:∃z,oQ c0 (fP k) (fQ k) l=z:=⟨_,rfl⟩
 obtain⟨ee,hee⟩:∃z,oE c0 (fP k) (fQ k) l=z:=⟨_,rfl⟩
 rw[hoo,huu,hee]at ON;simp only[hoo,huu,hee];clear h hok hc hc1 ha hL hl1 hA hz x1 x2 x3 q1 q2 q3 q4 hoo huu hee;generalize fP k=P at *;generalize fQ k=Q at *;go_enter Tryz.func80,Tryz.ntmps80;go_wp2_with fail;generalize hW:(wz.alloc (.cells _ 53))=YY at *;clear hW
 refine wp_region_inv3 ⟨(fun j=>([[7], [8], [9], [10], [11], [12], [13], [14], [], []]:List (List Nat)).getD j []),(fun j=>([[], [], [], [1,2], [], [0,1,2,3,4], [0,1,2,3,4,5], [0,1,2,3,4,5], [0,1,2,3,4,5,6,7], [0,1,2,3,4,5,6,7,8]]:List (List Nat)).getD j []), []⟩ 8 (fun jj vv yy=>match jj with|0=>vv = [some (.int .i32 c0)]|1=>vv = [some (.agg cs)]|2=>vv = [some (.int .i64 k)]|3=>∃(a3:Option Addr),∃(n3:Nat),∃(c3:Nat),∃(m3:Bool),∃(b3:Option Addr),∃(k3:Nat),∃(l3:Nat),vv = [some (.agg #[.slice a3 n3 c3,.bool m3,.slice b3 k3 l3])]/\RatAt yy a3 n3 c3 m3 b3 k3 l3 P Q|4=>vv = [some (.int .i64 l)]|5=>∃(a5:Option Addr),∃(n5:Nat),∃(c5:Nat),∃(m5:Bool),∃(b5:Option Addr),∃(k5:Nat),∃(l5:Nat),vv = [some (.tuple #[.agg #[.slice a5 n5 c5,.bool m5,.slice b5 k5 l5],.int .i64 ee])]/\RatAt yy a5 n5 c5 m5 b5 k5 l5 oo uu|6=>∃(a5:Option Addr),∃(n5:Nat),∃(c5:Nat),∃(m5:Bool),∃(b5:Option Addr),∃(k5:Nat),∃(l5:Nat),vv = [some (.agg #[.slice a5 n5 c5,.bool m5,.slice b5 k5 l5])]/\RatAt yy a5 n5 c5 m5 b5 k5 l5 oo uu|7=>vv = [some (.int .i64 ee)]|_=>True) (Bag YY (fun _=>True)) (by kernel_rfl) (by kernel_rfl) (by kernel_rfl) (by kernel_rfl) (Bag.start YY).drew ?_ ?_ ?_
 · intro jj vv yw yw2 hb h
   match jj,h with
   | 0,h=>exact h
   | 1,h=>exact h
   | 2,h=>exact h
   | 3,⟨a3,n3,c3,m3,b3,k3,l3,e3,g3_0⟩=>exact Exists.intro a3 (Exists.intro n3 (Exists.intro c3 (Exists.intro m3 (Exists.intro b3 (Exists.intro k3 (Exists.intro l3 (And.intro e3 (g3_0.below hb))))))))
   | 4,h=>exact h
   | 5,⟨a5,n5,c5,m5,b5,k5,l5,e5,g5_0⟩=>exact Exists.intro a5 (Exists.intro n5 (Exists.intro c5 (Exists.intro m5 (Exists.intro b5 (Exists.intro k5 (Exists.intro l5 (And.intro e5 (g5_0.below hb))))))))
   | 6,⟨a5,n5,c5,m5,b5,k5,l5,e6,g6_0⟩=>exact Exists.intro a5 (Exists.intro n5 (Exists.intro c5 (Exists.intro m5 (Exists.intro b5 (Exists.intro k5 (Exists.intro l5 (And.intro e6 (g6_0.below hb))))))))
   | 7,h=>exact h
   | _+8,h=>exact h
 · intro ac yw hsz hdf hold hB hp;obtain⟨a5,n5,c5,m5,b5,k5,l5,e6,g6⟩:=hp 6 (by decide);have t13:ac.tmps[13]? = some (.agg #[.slice a5 n5 c5,.bool m5,.slice b5 k5 l5]):=(List.cons.inj e6).1;have t14:ac.tmps[14]? = some (.int .i64 ee):=(List.cons.inj (hp 7 (by decide))).1;have t5:ac.tmps[5]? = some (.pointer (some ⟨wz.heap.size,0,none⟩)):=hold 5 (by kernel_rfl);have BC:=Lib.hid (BB.out.go hB.below);have hs:=BC.out.now.1;have⟨u0,u1,u2,f0,f1,f2⟩:=hs.s6;have HS:=hs.set (.slice a5 n5 c5) (.bool m5) (.slice b5 k5 l5);have HE:=Lib.hid (RatTold4.done ee BC.out.below (Nat.le_refl _) hs g6);clear hold hp e6 g6 hs hB;obtain⟨TV,hTV⟩:∃TV:Nat->Value,∀i,(ac.tmps[i]?).getD undef=TV i:=⟨_,fun _=>rfl⟩
   have f5:=(hTV 5).symm.trans (congrArg (fun x=>Option.getD x undef) t5);have f13:=(hTV 13).symm.trans (congrArg (fun x=>Option.getD x undef) t13);have f14:=(hTV 14).symm.trans (congrArg (fun x=>Option.getD x undef) t14);have hac:=act_eq (n:=15) hsz TV hTV;rw[show((List.range 15).map TV).toArray=#[TV 0,TV 1,TV 2,TV 3,TV 4,TV 5,TV 6,TV 7,TV 8,TV 9,TV 10,TV 11,TV 12,TV 13,TV 14]from rfl,f5,f13,f14,hdf]at hac;simp only[Option.getD_some]at hac;subst hac;clear hTV f5 f13 f14;refine TailWp.step rfl ?_;intro K hK;go_simp;refine hK.out _ _ ?_;refine TailWp.step rfl ?_;intro K hK;go_simp;refine hK.out _ _ ?_;refine TailWp.end rfl ?_;go_wp2;exact bodyPost_ret (by simp[results,Tryz.results80,go_sem,HS]) rfl HE.out
 refine Stps2.cons (o:=_) ?_ ?_
 · intro ac yw hsz hold hB hp K hK;have t1:ac.tmps[1]? = some (.pointer (some ⟨gc,0,none⟩)):=hold 1 (by kernel_rfl);clear hold hp hsz;have v0:=(HX.out _ (BB.out.go hB.below).below).1;have v2:=(HX.out _ (BB.out.go hB.below).below).2.2;go_simp;exact hK.out _ _ ⟨hB,rfl,Nat.le_refl _,.inl (Below.refl _ _),fun h=>absurd h (by decide)⟩
 refine Stps2.cons (o:=_) ?_ ?_
 · intro ac yw hsz hold hB hp K hK;have t2:ac.tmps[2]? = some (.pointer (some ⟨ga,0,none⟩)):=hold 2 (by kernel_rfl);clear hold hp hsz;rw[if_pos (by rfl)];refine ld8 2 rfl (ga) (cs) t2 ((HX.out _ (BB.out.go hB.below).below).2.1) (SZ.out) ?_;exact hK.out _ _ ⟨hB,rfl,Nat.le_refl _,.inl (Below.refl _ _),fun h=>absurd h (by decide)⟩
 refine Stps2.cons (o:=_) ?_ ?_
 · intro ac yw hsz hold hB hp K hK;have t0:ac.tmps[0]? = some (.int .i64 k):=hold 0 (by kernel_rfl);clear hold hp hsz;go_simp;exact hK.out _ _ ⟨hB,rfl,Nat.le_refl _,.inl (Below.refl _ _),fun h=>absurd h (by decide)⟩
 refine Stps2.cons (o:=_) ?_ ?_
 · intro ac yw hsz hold hB hp K hK;have e1:=hp 1 (by decide);have t8:ac.tmps[8]? = some (.agg cs):=(List.cons.inj e1).1;have e2:=hp 2 (by decide);have t9:ac.tmps[9]? = some (.int .i64 k):=(List.cons.inj e2).1;clear hold hp hsz e1 e2;go_simp
   (go_at_call 82;(refine(RA.out _ (BB.out.go hB.below).below).mono ?_);rintro e wz ⟨a3,n3,c3,m3,b3,k3,l3,rfl,h3_0,hbz⟩)
   exact hK.out _ _ ⟨hB.go hbz,Exists.intro a3 (Exists.intro n3 (Exists.intro c3 (Exists.intro m3 (Exists.intro b3 (Exists.intro k3 (Exists.intro l3 (And.intro rfl h3_0))))))),hbz.size,.inl hbz,fun h=>absurd h (by decide)⟩
 refine Stps2.cons (o:=_) ?_ ?_
 · intro ac yw hsz hold hB hp K hK;have t3:ac.tmps[3]? = some (.pointer (some ⟨gl,0,none⟩)):=hold 3 (by kernel_rfl);clear hold hp hsz;have v0:=(HX.out _ (BB.out.go hB.below).below).1;have v2:=(HX.out _ (BB.out.go hB.below).below).2.2;go_simp;exact hK.out _ _ ⟨hB,rfl,Nat.le_refl _,.inl (Below.refl _ _),fun h=>absurd h (by decide)⟩
 refine Stps2.cons (o:=_) ?_ ?_
 · intro ac yw hsz hold hB hp K hK;have e0:=hp 0 (by decide);have t7:ac.tmps[7]? = some (.int .i32 c0):=(List.cons.inj e0).1;obtain⟨a3_3,n3_3,c3_3,m3_3,b3_3,k3_3,l3_3,e3,g3_0⟩:=hp 3 (by decide);have t10:ac.tmps[10]? = some (.agg #[.slice a3_3 n3_3 c3_3,.bool m3_3,.slice b3_3 k3_3 l3_3]):=(List.cons.inj e3).1;have e4:=hp 4 (by decide);have t11:ac.tmps[11]? = some (.int .i64 l):=(List.cons.inj e4).1;clear hold hp hsz e0 e3 e4;go_simp
   (go_at_call 81;(refine(ON.out _ _ _ _ _ _ _ _ g3_0).mono ?_);rintro e wz ⟨a5,n5,c5,m5,b5,k5,l5,rfl,h5_0,hbz⟩)
   exact hK.out _ _ ⟨hB.go hbz,Exists.intro a5 (Exists.intro n5 (Exists.intro c5 (Exists.intro m5 (Exists.intro b5 (Exists.intro k5 (Exists.intro l5 (And.intro rfl h5_0))))))),hbz.size,.inl hbz,fun h=>absurd h (by decide)⟩
 refine Stps2.cons (o:=_) ?_ ?_
 · intro ac yw hsz hold hB hp K hK;obtain⟨a5_5,n5_5,c5_5,m5_5,b5_5,k5_5,l5_5,e5,g5_0⟩:=hp 5 (by decide);have t12:ac.tmps[12]? = some (.tuple #[.agg #[.slice a5_5 n5_5 c5_5,.bool m5_5,.slice b5_5 k5_5 l5_5],.int .i64 ee]):=(List.cons.inj e5).1;clear hold hp hsz e5;go_simp;exact hK.out _ _ ⟨hB,Exists.intro a5_5 (Exists.intro n5_5 (Exists.intro c5_5 (Exists.intro m5_5 (Exists.intro b5_5 (Exists.intro k5_5 (Exists.intro l5_5 (And.intro rfl g5_0))))))),Nat.le_refl _,.inl (Below.refl _ _),fun h=>absurd h (by decide)⟩
 refine Stps2.cons (o:=_) ?_ ?_
 · intro ac yw hsz hold hB hp K hK;obtain⟨a5_5,n5_5,c5_5,m5_5,b5_5,k5_5,l5_5,e5,g5_0⟩:=hp 5 (by decide);have t12:ac.tmps[12]? = some (.tuple #[.agg #[.slice a5_5 n5_5 c5_5,.bool m5_5,.slice b5_5 k5_5 l5_5],.int .i64 ee]):=(List.cons.inj e5).1;clear hold hp hsz e5;go_simp;exact hK.out _ _ ⟨hB,rfl,Nat.le_refl _,.inl (Below.refl _ _),fun h=>absurd h (by decide)⟩
 exact Stps2.nil _
def onE(c0:Int)(ch:Bool)(L:Nat)(fP:Nat->Int)(fQ:Nat->Nat)(l:Int):Int:=if hasO c0=false then 20 else if (ch&&decide (0<L))=true then 22 else feE (fun k=>oE c0 (fP k) (fQ k) l) L
theorem pone_any (c0 l : Int) (cs : Array Value) (S : Nat -> Int) (r : Nat) (ch : Bool) (L : Nat) (g g' fP : Nat -> Int) (fQ : Nat -> Nat) (w : World) (h : Arr w cs S r ch L g fP fQ) (hok : ch = false -> FewN fP fQ L) (hl : l <= 64) (hr : r <= 8) (hsh : shB S r = true) (hS : In64 S r) (hM : itm S r = (L : Nat)) :
    Calls Tryz.prog 24 #[.int .i32 c0,.agg cs,.int .i64 l] w fun e w'=>MoTold (onE c0 ch L fP fQ l) S r false L g' (fun k=>oP c0 (fP k) (fQ k) l) (fun k=>oQ c0 (fP k) (fQ k) l) w w' e:=by
 obtain⟨na,nn,nc,ta,tn,tc,hcs,_⟩:=h.form;subst hcs;have H:=Lib.hid h;have HA:=Lib.hid (fun wz=>mhas_any c0 wz);have HC:=Lib.hid (fun wz h=>hasChars_any (arrC ch ((r:Int)-1) (dm S r) na nn nc ta tn tc) S r ch L g fP fQ wz h);have SH:=Lib.hid (fun wz h=>shape8_any (arrC ch ((r:Int)-1) (dm S r) na nn nc ta tn tc) S r ch L g fP fQ wz h hr);obtain⟨uP,hP⟩:∃f,(fun k=>oP c0 (fP k) (fQ k) l)=f:=⟨_,rfl⟩
 obtain⟨uQ,hQ⟩:∃f,(fun k=>oQ c0 (fP k) (fQ k) l)=f:=⟨_,rfl⟩
 obtain⟨uE,hEE⟩:∃f,(fun k=>oE c0 (fP k) (fQ k) l)=f:=⟨_,rfl⟩
 have GV:=Lib.hid (fun gc ga gl wz (q:Arr wz (arrC ch ((r:Int)-1) (dm S r) na nn nc ta tn tc) S r ch L g fP fQ) (hb:(ch&&decide (0<L))=false) (hc:wz.cell? ⟨gc,0,none⟩=some (.int .i32 c0)) (hc1:gc<wz.heap.size) (ha:Row wz ga 36 (arrC ch ((r:Int)-1) (dm S r) na nn nc ta tn tc)) (hL:wz.cell? ⟨gl,0,none⟩=some (.int .i64 l)) (hl1:gl<wz.heap.size) =>
  (show FGives 80 #[.pointer (some ⟨gc,0,none⟩),.pointer (some ⟨ga,0,none⟩),.pointer (some ⟨gl,0,none⟩)] uP uQ uE L wz by
    subst hP hQ hEE
    cases ch with
    | false=>exact pone1_any c0 l gc ga gl _ S r L g fP fQ wz q (hok rfl) hl hc hc1 ha hL hl1
    | true =>
     have h0:¬0<L:=of_decide_eq_false (by simpa using hb)
     exact fun _ _ k hk=>absurd hk (by omega)))
 have FL:=Lib.hid (fun sa sc gc ga gl wz (k:KRow wz .i64 sa r sc S) (q:FGives 80 #[.pointer (some ⟨gc,0,none⟩),.pointer (some ⟨ga,0,none⟩),.pointer (some ⟨gl,0,none⟩)] uP uQ uE L wz)=>(filled_any _ _ ent_pone1 sa r sc S L uP uQ uE g' wz k hS hsh hM q).mono (fun _ _ z=>z.res));have BB:=Lib.hid (((((Bag.start w).box (.int .i32 c0) 21).newRow (arrC ch ((r:Int)-1) (dm S r) na nn nc ta tn tc) 36).box (.int .i64 l) 3).newRow zerC 36);simp only[World.size_alloc]at BB;have hON:onE c0 ch L fP fQ l=if hasO c0=false then 20 else if (ch&&decide (0<L))=true then 22 else feE uE L:=by rw[← hEE];rfl
 rw[hP,hQ,hON];obtain⟨EX,hEX⟩:∃z,(if hasO c0=false then(20:Int)else if (ch&&decide (0<L))=true then 22 else feE uE L)=z:=⟨_,rfl⟩
 rw[hEX];have HXX:=Lib.hid hEX;have q0:=BB.out.now.2.2.2.1.cell;clear h hok hsh hS hM hP hQ hEE hON hEX;unfold zerC at q0;unfold arrC at q0;unfold zerC at BB;unfold arrC at BB;unfold arrC;go_enter Tryz.func24,Tryz.ntmps24;go_wp2_with fail;go_at_call 77
 (refine(HA.out _).mono ?_)
 rintro e w2 ⟨rfl,hb2⟩;have BB:=bgo BB hb2;clear hb2 HA q0
 cases hb:hasO c0 with
 | false =>
  have HEX:Hid (EX=20):=Lib.hid (by rw[← HXX.out,hb];rfl);clear hb HXX;have HR:=Lib.hid BB.out.now.1;have HE:=Lib.hid (MoTold.of HEX.out (MoTold.no (E:=20) (S:=S) (r:=r) (ch:=false) (L:=L) (g:=g') (fP:=uP) (fQ:=uQ) (by decide) (below_put BB.out.below (show w.heap.size<=w.heap.size+1+1+1 by omega) zerC)))
  go_wp2_with (refine st_arr rfl (.tmp 6) (.tmp 12) rfl (w.heap.size+1+1+1) rfl false 0 (fun _=>0) none 0 0 none 0 0 rfl HR.out rfl ?_)
  exact bodyPost_ret (res_arr2 Tryz.results24 rfl rfl (HR.out.put _) rfl) rfl HE.out
 | true =>
  have HR:=Lib.hid BB.out.now.2.2.1
  go_wp2_with (refine ld8G (by rfl) 4 rfl (w.heap.size+1) (arrC ch ((r:Int)-1) (dm S r) na nn nc ta tn tc) (by rfl) HR.out rfl ?_)
  go_at_call 78
  (refine(HC.out _ (H.out.below BB.out.below)).mono ?_)
  rintro e w3 ⟨rfl,hb3⟩;have BB:=bgo BB hb3;clear hb3 HC HR
  cases hd:(ch&&decide (0<L))with
  | true =>
   have HEX:Hid (EX=22):=Lib.hid (by rw[← HXX.out,hb,hd];rfl);clear hb hd HXX;have HR:=Lib.hid BB.out.now.1;have HE:=Lib.hid (MoTold.of HEX.out (MoTold.no (E:=22) (S:=S) (r:=r) (ch:=false) (L:=L) (g:=g') (fP:=uP) (fQ:=uQ) (by decide) (below_put BB.out.below (show w.heap.size<=w.heap.size+1+1+1 by omega) zerC)))
   go_wp2_with (refine st_arr rfl (.tmp 6) (.tmp 16) rfl (w.heap.size+1+1+1) rfl false 0 (fun _=>0) none 0 0 none 0 0 rfl HR.out rfl ?_)
   exact bodyPost_ret (res_arr2 Tryz.results24 rfl rfl (HR.out.put _) rfl) rfl HE.out
  | false =>
   have HEX:Hid (EX=feE uE L):=Lib.hid (by rw[← HXX.out,hb,hd];rfl);have HD:=Lib.hid hd;clear hb hd HXX;have HR:=Lib.hid BB.out.now.2.2.1
   go_wp2_with (refine ld8G (by rfl) 4 rfl (w.heap.size+1) (arrC ch ((r:Int)-1) (dm S r) na nn nc ta tn tc) (by rfl) HR.out rfl ?_)
   go_at_call 39
   (refine(SH.out _ (H.out.below BB.out.below)).mono ?_)
   rintro e w4 ⟨sa,sc,rfl,hs4,hb4⟩;have BB:=bgo BB hb4;have HS:=Lib.hid hs4;have hl4:=hs4.len;have HG:=Lib.hid (GV.out w.heap.size (w.heap.size+1) (w.heap.size+1+1) w4 (H.out.below BB.out.below) HD.out BB.out.now.2.2.2.1.cell BB.out.now.2.2.2.1.lt BB.out.now.2.2.1 BB.out.now.2.1.cell BB.out.now.2.1.lt);clear hb4 hs4 HR SH GV;go_wp2_with fail;go_at_call 79
   (refine(FL.out _ _ _ _ _ _ HS.out HG.out).mono ?_)
   rintro e w5 ⟨x,rfl,hx,hb5⟩;have BB:=bgo BB hb5;have HR:=Lib.hid BB.out.now.1;have HX:=Lib.hid hx;generalize feE uE L=EE at *;clear hb5 hx HG FL HS
   go_wp2_with (refine stA rfl (.tmp 6) (.tmp 21) rfl (w.heap.size+1+1+1) rfl x rfl HX.out.1 HR.out IsA.zer ?_)
   have HE:=Lib.hid (MoTold.of HEX.out ((HX.out.store HR.out IsA.zer x).told (below_put BB.out.below (show w.heap.size<=w.heap.size+1+1+1 by omega) x)));exact bodyPost_ret (res_arr2 Tryz.results24 rfl rfl (HR.out.put _) HX.out.1.size) rfl HE.out
theorem RX.lt{w:World}{k:Nat}(h:RX w k):k<w.heap.size:=by
 obtain⟨x,z,h1⟩:=h;exact h1.lt
def RF(k:Nat)(b:Bool)(s:ByteArray)(b2:Bool)(s2:ByteArray)(y:World):Prop:=RX y (k+1+1)/\RX y (k+1+1+1)/\Slot2 y (k+1) (.bool b2) (.string s2)/\Slot2 y k (.bool b) (.string s)
theorem RF.stay{k:Nat}{b:Bool}{s:ByteArray}{b2:Bool}{s2:ByteArray}:∀x y,Below x.heap.size x y->RF k b s b2 s2 x->RF k b s b2 s2 y:=fun _ _ hb h=>⟨h.1.below hb,h.2.1.below hb,h.2.2.1.below hb,h.2.2.2.below hb⟩
theorem RF.start(w:World)(b:Bool)(s:ByteArray)(b2:Bool)(s2:ByteArray):Bag w (RF w.heap.size b s b2 s2) ((((w.alloc (.cells #[.bool b,.string s] 159)).alloc (.cells #[.bool b2,.string s2] 159)).alloc (.cells #[.bool false,.string ⟨#[]⟩] 159)).alloc (.cells #[.bool false,.string ⟨#[]⟩] 159)):=by
 have B0:=((((Bag.start w).box2 (.bool b) (.string s) 159).box2 (.bool b2) (.string s2) 159).box2 (.bool false) (.string ⟨#[]⟩) 159).box2 (.bool false) (.string ⟨#[]⟩) 159;simp only[World.size_alloc]at B0;exact⟨B0.below,RF.stay,⟨_,_,B0.now.2.1⟩,⟨_,_,B0.now.1⟩,B0.now.2.2.1,B0.now.2.2.2.1⟩
theorem RF.put2{k j:Nat}{b:Bool}{s:ByteArray}{b2:Bool}{s2:ByteArray}{y:World}(h:RF k b s b2 s2 y)(h1:k≠j)(h2:k+1≠j)(u v:Value):RF k b s b2 s2 (put2 y j u v):=⟨h.1.put2 u v,h.2.1.put2 u v,h.2.2.1.put2o h2 u v,h.2.2.2.put2o h1 u v⟩
def RFloor(w w':World)(e:Ending)(Q R:Int):Prop:=e=.returned (.tuple #[.agg #[.bool (rB Q),.string (rS Q)],.agg #[.bool (rB R),.string (rS R)]])/\Below w.heap.size w w'
theorem fl_times{Z Y:Int}(hY:Y≠0):Z=flQ Z Y*Y+flR Z Y:=by
 obtain⟨q,hq⟩:∃q,Z.natAbs / Y.natAbs=q:=⟨_,rfl⟩
 obtain⟨r,hr⟩:∃r,Z.natAbs%Y.natAbs=r:=⟨_,rfl⟩
 have e:=Nat.div_add_mod Z.natAbs Y.natAbs;have hrl:r<Y.natAbs:=by rw[← hr];exact Nat.mod_lt _ (by omega)
 rw[hq,hr]at e;unfold flQ flR flU flA;rw[hq,hr]
 by_cases hz:Z<0
 · obtain ⟨z, rfl⟩ : ∃ z : Nat, Z = -(z : Int) := ⟨Z.natAbs, by omega⟩
   by_cases hy:Y<0
   · obtain⟨y,rfl⟩:∃y:Nat,Y = -(y:Int):=⟨Y.natAbs,by omega⟩
     rw[decide_eq_true hz,decide_eq_true hy];simp only[Int.natAbs_neg,Int.natAbs_natCast]at e;have e':(y:Int)*(q:Int)+(r:Int)=(z:Int):=by exact_mod_cast e
     simp[sgn]
     rw[Int.mul_neg,Int.mul_comm (q:Int)];omega
   · obtain⟨y,rfl⟩:∃y:Nat,Y=(y:Int):=⟨Y.natAbs,by omega⟩
     rw[decide_eq_true hz,decide_eq_false hy]
     simp at e hrl
     have e':(y:Int)*(q:Int)+(r:Int)=(z:Int):=by exact_mod_cast e
     by_cases h0:r=0
     · subst h0
       simp[sgn]
       rw[Int.neg_mul,Int.mul_comm (q:Int)];omega
     · simp[sgn,h0]
       rw[Int.neg_mul,Int.add_mul,Int.mul_comm (q:Int)];omega
 · obtain ⟨z, rfl⟩ : ∃ z : Nat, Z = (z : Int) := ⟨Z.natAbs, by omega⟩
   by_cases hy:Y<0
   · obtain⟨y,rfl⟩:∃y:Nat,Y = -(y:Int):=⟨Y.natAbs,by omega⟩
     rw[decide_eq_false hz,decide_eq_true hy]
     simp at e hrl
     have e':(y:Int)*(q:Int)+(r:Int)=(z:Int):=by exact_mod_cast e
     by_cases h0:r=0
     · subst h0
       simp[sgn]
       rw[Int.neg_mul_neg,Int.mul_comm (q:Int)];omega
     · simp[sgn,h0]
       rw[Int.neg_mul_neg,Int.add_mul,Int.mul_comm (q:Int)];omega
   · obtain⟨y,rfl⟩:∃y:Nat,Y=(y:Int):=⟨Y.natAbs,by omega⟩
     rw[decide_eq_false hz,decide_eq_false hy]
     simp[sgn]at e ⊢
     have e':(y:Int)*(q:Int)+(r:Int)=(z:Int):=by exact_mod_cast e
     rw[Int.mul_comm (q:Int)];omega
theorem flA_rB(Z Y:Int):flA Z Y=(rB Z != rB Y):=rfl
theorem rB_of_nonneg{Z:Int}(h:0<=Z):rB Z=false:=decide_eq_false (by omega)
theorem rFloor_same (Z Y : Int) (w : World) (hl : dl Z.natAbs <= 400) (hl2 : dl Y.natAbs <= 400) (hY : Y ≠ 0) (hs : rB Z = rB Y) :
    Calls Tryz.prog 210 #[.agg #[.bool (rB Z),.string (rS Z)],.agg #[.bool (rB Y),.string (rS Y)]] w fun e w'=>RFloor w w' e (flQ Z Y) (flR Z Y):=by
 have ha:flA Z Y=false:=by rw[flA_rB,hs];cases rB Y<;>rfl
 have hqe:flQ Z Y=((Z.natAbs / Y.natAbs:Nat):Int):=by unfold flQ flU;rw[ha];simp[sgn]
 have hqd:dl (flQ Z Y).natAbs<=400:=by rw[hqe,Int.natAbs_natCast];exact Nat.le_trans (dl_mono (Nat.div_le_self _ _)) hl
 have hqb:rB (flQ Z Y)=false:=rB_of_nonneg (by rw[hqe];exact Int.natCast_nonneg _);have hqs:rS (flQ Z Y)=str (dec (Z.natAbs / Y.natAbs)):=by unfold rS;rw[hqe,Int.natAbs_natCast]
 have hpd:dl (flQ Z Y*Y).natAbs<=800:=by rw[Int.natAbs_mul];exact dl_mul_le hqd hl2
 have hR:Z + -(flQ Z Y*Y)=flR Z Y:=by have:=fl_times (Z:=Z) hY;omega
 have DM:Hid (∀wz,Calls Tryz.prog 164 #[.string (rS Z),.string (rS Y)] wz fun e w'=>e=.returned (.tuple #[.string (str (dec (Z.natAbs / Y.natAbs))),.string (str (dec (Z.natAbs%Y.natAbs)))])/\Below wz.heap.size wz w'):=fun wz=>rdivMod_any _ _ wz (by omega) (by omega) (by omega)
 have OF:Hid (∀wz,Calls Tryz.prog 189 #[.bool false,.string (str (dec (Z.natAbs / Y.natAbs)))] wz fun e w'=>RTold wz w' e (flQ Z Y)):=by
  intro wz;have h1:=rOf_dec false (Z.natAbs / Y.natAbs) wz (Nat.le_trans (dl_mono (Nat.div_le_self _ _)) (by omega));rw[show sgn false (Z.natAbs / Y.natAbs)=flQ Z Y from by rw[hqe];rfl]at h1;exact h1
 have MU:Hid (∀wz,Calls Tryz.prog 128 #[.agg #[.bool (rB (flQ Z Y)),.string (rS (flQ Z Y))],.agg #[.bool (rB Y),.string (rS Y)]] wz fun e w'=>RTold wz w' e (flQ Z Y*Y)):=fun wz=>rMul_any _ _ wz (by omega) (by omega)
 have MI:Hid (∀wz,Calls Tryz.prog 209 #[.agg #[.bool (rB (flQ Z Y*Y)),.string (rS (flQ Z Y*Y))]] wz fun e w'=>RTold wz w' e (-(flQ Z Y*Y))):=fun wz=>rMinus_any _ wz (by omega)
 have AD:Hid (∀wz,Calls Tryz.prog 193 #[.agg #[.bool (rB Z),.string (rS Z)],.agg #[.bool (rB (-(flQ Z Y*Y))),.string (rS (-(flQ Z Y*Y)))]] wz fun e w'=>RTold wz w' e (flR Z Y)):=by
  intro wz;have h1:=rAdd_any Z (-(flQ Z Y*Y)) wz (by omega) (by rw[Int.natAbs_neg];omega);rw[hR]at h1;exact h1
 unfold RTold at OF MU MI AD;rw[hqb]at OF MU;rw[← hqs]at OF DM;have hb:rB Z=rB Y:=hs;obtain⟨b,hbe⟩:∃b,rB Y=b:=⟨_,rfl⟩
 rw[hbe]at hb MU ⊢;rw[hb]at AD ⊢;obtain⟨sq,hsq⟩:∃sq,rS (flQ Z Y)=sq:=⟨_,rfl⟩
 obtain⟨R,hRe⟩:∃R,flR Z Y=R:=⟨_,rfl⟩
 obtain⟨V,hV⟩:∃V,flQ Z Y*Y=V:=⟨_,rfl⟩
 have HQ:Hid (Ending.returned (.tuple #[.agg #[.bool false,.string sq],.agg #[.bool (rB R),.string (rS R)]])=.returned (.tuple #[.agg #[.bool (rB (flQ Z Y)),.string (rS (flQ Z Y))],.agg #[.bool (rB (flR Z Y)),.string (rS (flR Z Y))]])):=Lib.hid (by rw[hqb,hsq,hRe]);rw[hsq]at OF DM MU;rw[hRe]at AD;rw[hV]at MU MI AD;obtain⟨s,hse⟩:∃s,rS Z=s:=⟨_,rfl⟩
 obtain⟨s2,hse2⟩:∃s2,rS Y=s2:=⟨_,rfl⟩
 rw[hse]at DM AD ⊢;rw[hse2]at DM MU ⊢;obtain⟨b2,hb2e⟩:∃b2,b=b2:=⟨_,rfl⟩
 have BB:=Lib.hid (RF.start w b s b s2);have q0:=BB.out.now.2.2.2.cell;have q1:=BB.out.now.2.2.2.cell1;have q2:=BB.out.now.2.2.1.cell;have q3:=BB.out.now.2.2.1.cell1;clear hl hl2 hY hs ha hqe hqd hqb hqs hpd hR hb hbe hsq hRe hV hse hse2 hb2e b2
 cases b
 · go_enter Tryz.func210, Tryz.ntmps210
   go_wp2_with (first
    | (go_at_call 164;(with_reducible refine(DM.out _).mono ?_);rintro e w2 ⟨rfl,hb2⟩;have BB:=Lib.hid (BB.out.go hb2);have q0:=BB.out.now.2.2.2.cell;have q1:=BB.out.now.2.2.2.cell1;have q2:=BB.out.now.2.2.1.cell;have q3:=BB.out.now.2.2.1.cell1;clear hb2)
    | (go_at_call 189;(with_reducible refine(OF.out _).mono ?_);rintro e w3 ⟨rfl,hb3⟩;have hk3:w.heap.size+1+1+1<w3.heap.size:=RX.lt (BB.out.go hb3).now.2.1;have BB:=Lib.hid ((BB.out.go hb3).box2 (.bool false) (.string sq) 159);have q0:=BB.out.now.2.2.2.2.cell;have q1:=BB.out.now.2.2.2.2.cell1;have q2:=BB.out.now.2.2.2.1.cell;have q3:=BB.out.now.2.2.2.1.cell1;have q4:=BB.out.now.1.cell;have q5:=BB.out.now.1.cell1;clear hb3))
   go_region_held3 (fun y => (y.cell? ⟨w.heap.size, 0, none⟩ = some (.bool false) /\ y.cell? ⟨w.heap.size, 1, none⟩ = some (.string s) /\ y.cell? ⟨w.heap.size + 1, 0, none⟩ = some (.bool false) /\ y.cell? ⟨w.heap.size + 1, 1, none⟩ = some (.string s2) /\ y.cell? ⟨w3.heap.size, 0, none⟩ = some (.bool false) /\ y.cell? ⟨w3.heap.size, 1, none⟩ = some (.string sq)) /\ Bag w (fun y => Slot2 y w3.heap.size (.bool false) (.string sq) /\ RF w.heap.size false s false s2 y) y)
    (first
      | (have B9:=BB.out.drew;exact⟨⟨B9.now.2.2.2.2.cell,B9.now.2.2.2.2.cell1,B9.now.2.2.2.1.cell,B9.now.2.2.2.1.cell1,B9.now.1.cell,B9.now.1.cell1⟩,B9⟩)
      | (have B9:=Bag.go (show Bag w (fun y=>Slot2 y w3.heap.size (.bool false) (.string sq)/\RF w.heap.size false s false s2 y) _ from by go_split_ands;assumption) hb2;exact⟨⟨B9.now.2.2.2.2.cell,B9.now.2.2.2.2.cell1,B9.now.2.2.2.1.cell,B9.now.2.2.2.1.cell1,B9.now.1.cell,B9.now.1.cell1⟩,B9⟩)
      | (have B9:=Bag.put2 (show Bag w (fun y=>Slot2 y w3.heap.size (.bool false) (.string sq)/\RF w.heap.size false s false s2 y) _ from by go_split_ands;assumption) (k:=w.heap.size+1+1) (u:=.bool false) (v:=.string sq) (by omega) (fun h=>⟨h.1.put2o (by omega) _ _,h.2.put2 (by omega) (by omega) _ _⟩);exact⟨⟨B9.now.2.2.2.2.cell,B9.now.2.2.2.2.cell1,B9.now.2.2.2.1.cell,B9.now.2.2.2.1.cell1,B9.now.1.cell,B9.now.1.cell1⟩,B9⟩)
      | (have B9:=Bag.put2 (show Bag w (fun y=>Slot2 y w3.heap.size (.bool false) (.string sq)/\RF w.heap.size false s false s2 y) _ from by go_split_ands;assumption) (k:=w.heap.size+1+1+1) (u:=.bool (rB R)) (v:=.string (rS R)) (by omega) (fun h=>⟨h.1.put2o (by omega) _ _,h.2.put2 (by omega) (by omega) _ _⟩);exact⟨⟨B9.now.2.2.2.2.cell,B9.now.2.2.2.2.cell1,B9.now.2.2.2.1.cell,B9.now.2.2.2.1.cell1,B9.now.1.cell,B9.now.1.cell1⟩,B9⟩))
    (first
      | (go_at_call 128;(with_reducible refine(MU.out _).mono ?_);rintro e w2 ⟨rfl,hb2⟩)
      | (go_at_call 209;(with_reducible refine(MI.out _).mono ?_);rintro e w2 ⟨rfl,hb2⟩)
      | (go_at_call 193; (with_reducible refine (AD.out _).mono ?_); rintro e w2 ⟨rfl, hb2⟩;
          have B7:=Bag.go (show Bag w (fun y=>Slot2 y w3.heap.size (.bool false) (.string sq)/\RF w.heap.size false s false s2 y) _ from by go_split_ands;assumption) hb2;
          obtain⟨x8,z8,hs8⟩:=B7.now.2.1;
          obtain⟨x9,z9,hs9⟩:=B7.now.2.2.1;
          have hc1:=hs8.cell;have hc2:=hs8.cell1;have hc3:=hs9.cell;have hc4:=hs9.cell1;have hf1:=hs8.free;have hf2:=hs8.free1;have hf3:=hs9.free;have hf4:=hs9.free1;
          have HA:=(hs8.put2s (.bool false) (.string sq)).put2o (show w.heap.size+1+1≠w.heap.size+1+1+1 by omega) (.bool (rB R)) (.string (rS R));
          have HB:=(hs9.put2o (show w.heap.size+1+1+1≠w.heap.size+1+1 by omega) (.bool false) (.string sq)).put2s (.bool (rB R)) (.string (rS R));
          have e1:=HA.cell;have e2:=HA.cell1;have e3:=HB.cell;have e4:=HB.cell1;
          have HE:Hid (RFloor w (put2 (put2 w2 (w.heap.size+1+1) (.bool false) (.string sq)) (w.heap.size+1+1+1) (.bool (rB R)) (.string (rS R))) (.returned (.tuple #[.agg #[.bool false,.string sq],.agg #[.bool (rB R),.string (rS R)]])) (flQ Z Y) (flR Z Y)):=⟨HQ.out,(((B7.below.setCell (show w.heap.size<=w.heap.size+1+1 by omega) _).setCell (show w.heap.size<=w.heap.size+1+1 by omega) _).setCell (show w.heap.size<=w.heap.size+1+1+1 by omega) _).setCell (show w.heap.size<=w.heap.size+1+1+1 by omega) _⟩;
          unfold put2 at HE e1 e2 e3 e4;clear hs8 hs9 HA HB B7))
   all_goals
    go_wp2;exact bodyPost_ret (v:=.tuple #[.agg #[.bool false,.string sq],.agg #[.bool (rB R),.string (rS R)]]) (by simp[results,Tryz.results210,go_sem,e1,e2,e3,e4]) rfl HE.out
 · go_enter Tryz.func210, Tryz.ntmps210
   go_wp2_with (first
    | (go_at_call 164;(with_reducible refine(DM.out _).mono ?_);rintro e w2 ⟨rfl,hb2⟩;have BB:=Lib.hid (BB.out.go hb2);have q0:=BB.out.now.2.2.2.cell;have q1:=BB.out.now.2.2.2.cell1;have q2:=BB.out.now.2.2.1.cell;have q3:=BB.out.now.2.2.1.cell1;clear hb2)
    | (go_at_call 189;(with_reducible refine(OF.out _).mono ?_);rintro e w3 ⟨rfl,hb3⟩;have hk3:w.heap.size+1+1+1<w3.heap.size:=RX.lt (BB.out.go hb3).now.2.1;have BB:=Lib.hid ((BB.out.go hb3).box2 (.bool false) (.string sq) 159);have q0:=BB.out.now.2.2.2.2.cell;have q1:=BB.out.now.2.2.2.2.cell1;have q2:=BB.out.now.2.2.2.1.cell;have q3:=BB.out.now.2.2.2.1.cell1;have q4:=BB.out.now.1.cell;have q5:=BB.out.now.1.cell1;clear hb3))
   go_region_held3 (fun y => (y.cell? ⟨w.heap.size, 0, none⟩ = some (.bool true) /\ y.cell? ⟨w.heap.size, 1, none⟩ = some (.string s) /\ y.cell? ⟨w.heap.size + 1, 0, none⟩ = some (.bool true) /\ y.cell? ⟨w.heap.size + 1, 1, none⟩ = some (.string s2) /\ y.cell? ⟨w3.heap.size, 0, none⟩ = some (.bool false) /\ y.cell? ⟨w3.heap.size, 1, none⟩ = some (.string sq)) /\ Bag w (fun y => Slot2 y w3.heap.size (.bool false) (.string sq) /\ RF w.heap.size true s true s2 y) y)
    (first
      | (have B9:=BB.out.drew;exact⟨⟨B9.now.2.2.2.2.cell,B9.now.2.2.2.2.cell1,B9.now.2.2.2.1.cell,B9.now.2.2.2.1.cell1,B9.now.1.cell,B9.now.1.cell1⟩,B9⟩)
      | (have B9:=Bag.go (show Bag w (fun y=>Slot2 y w3.heap.size (.bool false) (.string sq)/\RF w.heap.size true s true s2 y) _ from by go_split_ands;assumption) hb2;exact⟨⟨B9.now.2.2.2.2.cell,B9.now.2.2.2.2.cell1,B9.now.2.2.2.1.cell,B9.now.2.2.2.1.cell1,B9.now.1.cell,B9.now.1.cell1⟩,B9⟩)
      | (have B9:=Bag.put2 (show Bag w (fun y=>Slot2 y w3.heap.size (.bool false) (.string sq)/\RF w.heap.size true s true s2 y) _ from by go_split_ands;assumption) (k:=w.heap.size+1+1) (u:=.bool false) (v:=.string sq) (by omega) (fun h=>⟨h.1.put2o (by omega) _ _,h.2.put2 (by omega) (by omega) _ _⟩);exact⟨⟨B9.now.2.2.2.2.cell,B9.now.2.2.2.2.cell1,B9.now.2.2.2.1.cell,B9.now.2.2.2.1.cell1,B9.now.1.cell,B9.now.1.cell1⟩,B9⟩)
      | (have B9:=Bag.put2 (show Bag w (fun y=>Slot2 y w3.heap.size (.bool false) (.string sq)/\RF w.heap.size true s true s2 y) _ from by go_split_ands;assumption) (k:=w.heap.size+1+1+1) (u:=.bool (rB R)) (v:=.string (rS R)) (by omega) (fun h=>⟨h.1.put2o (by omega) _ _,h.2.put2 (by omega) (by omega) _ _⟩);exact⟨⟨B9.now.2.2.2.2.cell,B9.now.2.2.2.2.cell1,B9.now.2.2.2.1.cell,B9.now.2.2.2.1.cell1,B9.now.1.cell,B9.now.1.cell1⟩,B9⟩))
    (first
      | (go_at_call 128;(with_reducible refine(MU.out _).mono ?_);rintro e w2 ⟨rfl,hb2⟩)
      | (go_at_call 209;(with_reducible refine(MI.out _).mono ?_);rintro e w2 ⟨rfl,hb2⟩)
      | (go_at_call 193; (with_reducible refine (AD.out _).mono ?_); rintro e w2 ⟨rfl, hb2⟩;
          have B7:=Bag.go (show Bag w (fun y=>Slot2 y w3.heap.size (.bool false) (.string sq)/\RF w.heap.size true s true s2 y) _ from by go_split_ands;assumption) hb2;
          obtain⟨x8,z8,hs8⟩:=B7.now.2.1;
          obtain⟨x9,z9,hs9⟩:=B7.now.2.2.1;
          have hc1:=hs8.cell;have hc2:=hs8.cell1;have hc3:=hs9.cell;have hc4:=hs9.cell1;have hf1:=hs8.free;have hf2:=hs8.free1;have hf3:=hs9.free;have hf4:=hs9.free1;
          have HA:=(hs8.put2s (.bool false) (.string sq)).put2o (show w.heap.size+1+1≠w.heap.size+1+1+1 by omega) (.bool (rB R)) (.string (rS R));
          have HB:=(hs9.put2o (show w.heap.size+1+1+1≠w.heap.size+1+1 by omega) (.bool false) (.string sq)).put2s (.bool (rB R)) (.string (rS R));
          have e1:=HA.cell;have e2:=HA.cell1;have e3:=HB.cell;have e4:=HB.cell1;
          have HE:Hid (RFloor w (put2 (put2 w2 (w.heap.size+1+1) (.bool false) (.string sq)) (w.heap.size+1+1+1) (.bool (rB R)) (.string (rS R))) (.returned (.tuple #[.agg #[.bool false,.string sq],.agg #[.bool (rB R),.string (rS R)]])) (flQ Z Y) (flR Z Y)):=⟨HQ.out,(((B7.below.setCell (show w.heap.size<=w.heap.size+1+1 by omega) _).setCell (show w.heap.size<=w.heap.size+1+1 by omega) _).setCell (show w.heap.size<=w.heap.size+1+1+1 by omega) _).setCell (show w.heap.size<=w.heap.size+1+1+1 by omega) _⟩;
          unfold put2 at HE e1 e2 e3 e4;clear hs8 hs9 HA HB B7))
   all_goals
    go_wp2;exact bodyPost_ret (v:=.tuple #[.agg #[.bool false,.string sq],.agg #[.bool (rB R),.string (rS R)]]) (by simp[results,Tryz.results210,go_sem,e1,e2,e3,e4]) rfl HE.out
def QK(q k:Nat):Int := -((q+k:Nat):Int)
def RT1(Z Y:Int):Nat:=if Z.natAbs%Y.natAbs=0 then 0 else 1
theorem RT1_le(Z Y:Int):RT1 Z Y<=1:=by unfold RT1;split<;>omega
theorem flQ_apart{Z Y:Int}(ha:flA Z Y=true):flQ Z Y=QK (Z.natAbs / Y.natAbs) (RT1 Z Y):=by
 unfold flQ flU RT1 QK;rw[ha]
 by_cases h:Z.natAbs%Y.natAbs=0
 · simp[h,sgn]
 · simp[h,sgn]
theorem qk_nat(q k y:Nat):QK q k*(y:Int) = -(((q+k)*y:Nat):Int):=by
 unfold QK;rw[Int.neg_mul];simp
theorem qk_abs(q k:Nat):(QK q k).natAbs=q+k:=by unfold QK;rw[Int.natAbs_neg,Int.natAbs_natCast]
theorem cmpZ_pos{A B:Int}(h:B<A):cmpZ A B=1:=by unfold cmpZ;split<;>(try split)<;>omega
theorem cmpZ_npos{A B:Int}(h:A<=B):decide ((0:Int)<cmpZ A B)=false:=by refine decide_eq_false ?_;unfold cmpZ;split<;>(try split)<;>omega
theorem rS_m1:rS (-1)=⟨#[49]⟩:=by
 have h:str (dec 1)=⟨#[49]⟩:=by
  have h1:dl 1=1:=by unfold dl;rfl
  unfold dec;rw[h1];rfl
 exact h
theorem qk_more{z y:Nat}(hr:¬z%y=0) : -(z:Int)<QK (z / y) 0*(y:Int):=by
 rw[qk_nat];have e:=Nat.div_add_mod z y;have:(z / y+0)*y=y*(z / y):=by rw[Nat.add_zero,Nat.mul_comm]
 rw[this];omega
theorem qk_done{z y k:Nat}(hy:0<y)(hk:k=if z%y=0 then 0 else 1):QK (z / y) k*(y:Int) <= -(z:Int):=by
 rw[qk_nat];have e:=Nat.div_add_mod z y;have hl:=Nat.mod_lt z hy
 by_cases hr:z%y=0
 · rw[if_pos hr]at hk;subst hk;have:(z / y+0)*y=y*(z / y):=by rw[Nat.add_zero,Nat.mul_comm]
   rw[this];omega
 · rw[if_neg hr]at hk;subst hk;have:(z / y+1)*y=y*(z / y)+y:=by rw[Nat.add_mul,Nat.mul_comm,Nat.one_mul]
   rw[this];omega
theorem rFloor_apart (Z Y : Int) (w : World) (hl : dl Z.natAbs <= 400) (hl2 : dl Y.natAbs <= 400) (hY : Y ≠ 0) (hs : ¬ rB Z = rB Y) :
    Calls Tryz.prog 210 #[.agg #[.bool (rB Z),.string (rS Z)],.agg #[.bool (rB Y),.string (rS Y)]] w fun e w'=>RFloor w w' e (flQ Z Y) (flR Z Y):=by
 have ha:flA Z Y=true:=by rw[flA_rB];revert hs;cases rB Z<;>cases rB Y<;>simp
 have hqe:=flQ_apart ha;obtain⟨t,htT⟩:∃t,RT1 Z Y=t:=⟨_,rfl⟩
 have ht1:t<=1:=by rw[← htT];exact RT1_le Z Y
 have htd:t=if Z.natAbs%Y.natAbs=0 then 0 else 1:=by rw[← htT];rfl
 obtain⟨q,hq⟩:∃q,Z.natAbs / Y.natAbs=q:=⟨_,rfl⟩
 rw[hq,htT]at hqe;have hy0:0<Y.natAbs:=by omega
 have hqz:q<=Z.natAbs:=by rw[← hq];exact Nat.div_le_self _ _
 have hqk:∀k,k<=1->dl (QK q k).natAbs<=401:=by
  intro k hk;rw[qk_abs];exact Nat.le_trans (dl_mono (show q+k<=Z.natAbs+1 by omega)) (dl_add_le (k:=400) hl (by exact Nat.le_trans (dl_mono (show 1<=Y.natAbs by omega)) hl2))
 have hqd:dl (flQ Z Y).natAbs<=401:=by rw[hqe];exact hqk t ht1
 have hpd:dl (flQ Z Y*Y).natAbs<=801:=by rw[Int.natAbs_mul];exact dl_mul_le hqd hl2
 have hR:Z + -(flQ Z Y*Y)=flR Z Y:=by have:=fl_times (Z:=Z) hY;omega
 have DM:Hid (∀wz,Calls Tryz.prog 164 #[.string (rS Z),.string (rS Y)] wz fun e w'=>e=.returned (.tuple #[.string (str (dec q)),.string (str (dec (Z.natAbs%Y.natAbs)))])/\Below wz.heap.size wz w'):=fun wz=>by have h1:=rdivMod_any Z.natAbs Y.natAbs wz (by omega) (by omega) (by omega);rw[hq]at h1;exact h1
 have OF:Hid (∀wz,Calls Tryz.prog 189 #[.bool true,.string (str (dec q))] wz fun e w'=>RTold wz w' e (QK q 0)):=by
  intro wz;have h1:=rOf_dec true q wz (Nat.le_trans (dl_mono hqz) (by omega));rw[show sgn true q=QK q 0 from by simp[sgn,QK]]at h1;exact h1
 have O1:Hid (∀wz,Calls Tryz.prog 189 #[.bool false,.string (rS Y)] wz fun e w'=>RTold wz w' e (Y.natAbs:Int)):=by
  intro wz;exact rOf_dec false Y.natAbs wz (by omega)
 have O2:Hid (∀wz,Calls Tryz.prog 189 #[.bool true,.string (rS Z)] wz fun e w'=>RTold wz w' e (-(Z.natAbs:Int))):=by
  intro wz;exact rOf_dec true Z.natAbs wz (by omega)
 have MUA:Hid (∀k,k<=1->∀wz,Calls Tryz.prog 128 #[.agg #[.bool (rB (QK q k)),.string (rS (QK q k))],.agg #[.bool (rB (Y.natAbs:Int)),.string (rS (Y.natAbs:Int))]] wz fun e w'=>RTold wz w' e (QK q k*(Y.natAbs:Int))):=fun k hk wz=>rMul_any _ _ wz (by have:=hqk k hk;omega) (by rw[Int.natAbs_natCast];omega)
 have CMA:Hid (∀k,k<=1->∀wz,Calls Tryz.prog 127 #[.agg #[.bool (rB (QK q k*(Y.natAbs:Int))),.string (rS (QK q k*(Y.natAbs:Int)))],.agg #[.bool (rB (-(Z.natAbs:Int))),.string (rS (-(Z.natAbs:Int)))]] wz fun e w'=>e=.returned (.int .i64 (cmpZ (QK q k*(Y.natAbs:Int)) (-(Z.natAbs:Int))))/\Below wz.heap.size wz w'):=fun k hk wz=>rCmp_any _ _ wz (by rw[Int.natAbs_mul,Int.natAbs_natCast];have:=dl_mul_le (hqk k hk) hl2;omega) (by rw[Int.natAbs_neg,Int.natAbs_natCast];omega)
 have A1:Hid (∀k,k<=0->∀wz,Calls Tryz.prog 193 #[.agg #[.bool (rB (QK q k)),.string (rS (QK q k))],.agg #[.bool true,.string ⟨#[49]⟩]] wz fun e w'=>RTold wz w' e (QK q (k+1))):=by
  intro k hk wz;have h1:=rAdd_any (QK q k) (-1) wz (by have:=hqk k (by omega);omega) (Nat.le_trans (dl_le 1 1 (by omega) (by omega)) (by omega));rw[show QK q k + -1=QK q (k+1)from by unfold QK;omega,show rB (-1)=true from rfl,rS_m1]at h1;exact h1
 have HD1:Hid (∀k,k<t->decide ((0:Int)<cmpZ (QK q k*(Y.natAbs:Int)) (-(Z.natAbs:Int)))=true):=by
  intro k hk;have hk0:k=0:=by omega
  subst hk0;rw[cmpZ_pos (by rw[← hq];refine qk_more ?_;intro h;rw[if_pos h]at htd;omega)];rfl
 have HD2:Hid (decide ((0:Int)<cmpZ (QK q t*(Y.natAbs:Int)) (-(Z.natAbs:Int)))=false):=cmpZ_npos (by rw[← hq];exact qk_done hy0 htd);have MU:Hid (∀wz,Calls Tryz.prog 128 #[.agg #[.bool (rB (flQ Z Y)),.string (rS (flQ Z Y))],.agg #[.bool (rB Y),.string (rS Y)]] wz fun e w'=>RTold wz w' e (flQ Z Y*Y)):=fun wz=>rMul_any _ _ wz (by omega) (by omega)
 have MI:Hid (∀wz,Calls Tryz.prog 209 #[.agg #[.bool (rB (flQ Z Y*Y)),.string (rS (flQ Z Y*Y))]] wz fun e w'=>RTold wz w' e (-(flQ Z Y*Y))):=fun wz=>rMinus_any _ wz (by omega)
 have AD:Hid (∀wz,Calls Tryz.prog 193 #[.agg #[.bool (rB Z),.string (rS Z)],.agg #[.bool (rB (-(flQ Z Y*Y))),.string (rS (-(flQ Z Y*Y)))]] wz fun e w'=>RTold wz w' e (flR Z Y)):=by
  intro wz;have h1:=rAdd_any Z (-(flQ Z Y*Y)) wz (by omega) (by rw[Int.natAbs_neg];omega);rw[hR]at h1;exact h1
 unfold RTold at OF O1 O2 MUA A1 MU MI AD;have hd:(rB Z==rB Y)=false:=by revert hs;cases rB Z<;>cases rB Y<;>simp
 obtain⟨sq,hsq⟩:∃sq,rS (flQ Z Y)=sq:=⟨_,rfl⟩
 obtain⟨qb,hqb⟩:∃qb,rB (flQ Z Y)=qb:=⟨_,rfl⟩
 obtain⟨R,hRe⟩:∃R,flR Z Y=R:=⟨_,rfl⟩
 obtain⟨V,hV⟩:∃V,flQ Z Y*Y=V:=⟨_,rfl⟩
 have HQ:Hid (Ending.returned (.tuple #[.agg #[.bool qb,.string sq],.agg #[.bool (rB R),.string (rS R)]])=.returned (.tuple #[.agg #[.bool (rB (flQ Z Y)),.string (rS (flQ Z Y))],.agg #[.bool (rB (flR Z Y)),.string (rS (flR Z Y))]])):=Lib.hid (by rw[hqb,hsq,hRe]);have HT:Hid (rB (QK q t)=qb/\rS (QK q t)=sq):=⟨by rw[← hqe];exact hqb,by rw[← hqe];exact hsq⟩
 rw[hqb,hsq]at MU;rw[hRe]at AD;rw[hV]at MU MI AD;obtain⟨b,hbe⟩:∃b,rB Z=b:=⟨_,rfl⟩
 obtain⟨b2,hbe2⟩:∃b2,rB Y=b2:=⟨_,rfl⟩
 obtain⟨s,hse⟩:∃s,rS Z=s:=⟨_,rfl⟩
 obtain⟨s2,hse2⟩:∃s2,rS Y=s2:=⟨_,rfl⟩
 obtain⟨YA,hYA⟩:∃YA,(Y.natAbs:Int)=YA:=⟨_,rfl⟩
 obtain⟨ZA,hZA⟩:∃ZA, -(Z.natAbs:Int)=ZA:=⟨_,rfl⟩
 rw[hbe]at AD hd ⊢;rw[hbe2]at MU hd ⊢;rw[hse]at DM AD O2 ⊢;rw[hse2]at DM MU O1 ⊢;rw[hYA]at O1 MUA CMA HD1 HD2;rw[hZA]at O2 CMA HD1 HD2;have BB:=Lib.hid (RF.start w b s b2 s2);have q0:=BB.out.now.2.2.2.cell;have q1:=BB.out.now.2.2.2.cell1;have q2:=BB.out.now.2.2.1.cell;have q3:=BB.out.now.2.2.1.cell1;clear hl hl2 hY hs ha hqe htT htd hq hy0 hqz hqk hqd hpd hR hsq hqb hRe hV hbe hbe2 hse hse2 hYA hZA;obtain⟨u,hu⟩:∃u,rB (QK q 0)=u:=⟨_,rfl⟩
 rw[hu]at OF
 cases u
 · go_enter Tryz.func210, Tryz.ntmps210
   go_wp2_with (first
    | (go_at_call 164;(with_reducible refine(DM.out _).mono ?_);rintro e w2 ⟨rfl,hb2⟩;have BB:=Lib.hid (BB.out.go hb2);have q0:=BB.out.now.2.2.2.cell;have q1:=BB.out.now.2.2.2.cell1;have q2:=BB.out.now.2.2.1.cell;have q3:=BB.out.now.2.2.1.cell1;clear hb2)
    | (go_at_call 189;(with_reducible refine(OF.out _).mono ?_);rintro e w3 ⟨rfl,hb3⟩;have hk3:w.heap.size+1+1+1<w3.heap.size:=RX.lt (BB.out.go hb3).now.2.1;have BB:=Lib.hid ((BB.out.go hb3).box2 (.bool false) (.string (rS (QK q 0))) 159);have q0:=BB.out.now.2.2.2.2.cell;have q1:=BB.out.now.2.2.2.2.cell1;have q2:=BB.out.now.2.2.2.1.cell;have q3:=BB.out.now.2.2.2.1.cell1;have q4:=BB.out.now.1.cell;have q5:=BB.out.now.1.cell1;clear hb3))
   go_loopw [9] (fun i wr=>∃k:Nat,k<=t/\i=.int .i64 k/\Hid (Bag w (fun y=>Slot2 y w3.heap.size (.bool (rB (QK q k))) (.string (rS (QK q k)))/\RF w.heap.size b s b2 s2 y) wr))
    (fun i _=>2-(intOf i).toNat)
   case atStart =>
    refine⟨0,by omega,rfl,?_⟩
    show Hid (Bag w (fun y=>Slot2 y w3.heap.size (.bool (rB (QK q 0))) (.string (rS (QK q 0)))/\RF w.heap.size b s b2 s2 y) _)
    rw[hu];exact BB
   case round =>
    obtain⟨k,hk,rfl,BB⟩:=hrel;have q0:=BB.out.now.2.2.2.2.cell;have q1:=BB.out.now.2.2.2.2.cell1;have q2:=BB.out.now.2.2.2.1.cell;have q3:=BB.out.now.2.2.2.1.cell1;have q4:=BB.out.now.1.cell;have q5:=BB.out.now.1.cell1;have MUK:=Lib.hid (MUA.out k (by omega));have CMK:=Lib.hid (CMA.out k (by omega))
    by_cases hkt:k<t
    · have d1 := HD1.out k hkt; have d2 : decide ((k : Int) < 2) = true := decide_eq_true (by omega); obtain ⟨c, hc⟩ : ∃ c, cmpZ (QK q k * YA) ZA = c := ⟨_, rfl⟩
      rw[hc]at CMK d1;have A1K:=Lib.hid (A1.out k (by omega));clear hc HD1 HD2;go_wp2_with fail
      go_region_held3 (fun y => (y.cell? ⟨w.heap.size, 0, none⟩ = some (.bool b) /\ y.cell? ⟨w.heap.size, 1, none⟩ = some (.string s) /\ y.cell? ⟨w.heap.size + 1, 0, none⟩ = some (.bool b2) /\ y.cell? ⟨w.heap.size + 1, 1, none⟩ = some (.string s2) /\ y.cell? ⟨w3.heap.size, 0, none⟩ = some (.bool (rB (QK q k))) /\ y.cell? ⟨w3.heap.size, 1, none⟩ = some (.string (rS (QK q k)))) /\ Bag w (fun y => Slot2 y w3.heap.size (.bool (rB (QK q k))) (.string (rS (QK q k))) /\ RF w.heap.size b s b2 s2 y) y)
       (first
         | (have B9:=BB.out.drew;exact⟨⟨B9.now.2.2.2.2.cell,B9.now.2.2.2.2.cell1,B9.now.2.2.2.1.cell,B9.now.2.2.2.1.cell1,B9.now.1.cell,B9.now.1.cell1⟩,B9⟩)
         | (have B9:=Bag.go (show Bag w (fun y=>Slot2 y w3.heap.size (.bool (rB (QK q k))) (.string (rS (QK q k)))/\RF w.heap.size b s b2 s2 y) _ from by go_split_ands;assumption) hb2;exact⟨⟨B9.now.2.2.2.2.cell,B9.now.2.2.2.2.cell1,B9.now.2.2.2.1.cell,B9.now.2.2.2.1.cell1,B9.now.1.cell,B9.now.1.cell1⟩,B9⟩))
       (first
         | (go_at_call 189;(with_reducible refine(O1.out _).mono ?_);rintro e w2 ⟨rfl,hb2⟩)
         | (go_at_call 189;(with_reducible refine(O2.out _).mono ?_);rintro e w2 ⟨rfl,hb2⟩)
         | (go_at_call 128;(with_reducible refine(MUK.out _).mono ?_);rintro e w2 ⟨rfl,hb2⟩)
         | (go_at_call 127;(with_reducible refine(CMK.out _).mono ?_);rintro e w2 ⟨rfl,hb2⟩))
      have BB:=Lib.hid (show Bag w (fun y=>Slot2 y w3.heap.size (.bool (rB (QK q k))) (.string (rS (QK q k)))/\RF w.heap.size b s b2 s2 y) _ from by go_split_ands;assumption);have q0:=BB.out.now.2.2.2.2.cell;have q1:=BB.out.now.2.2.2.2.cell1;have q2:=BB.out.now.2.2.2.1.cell;have q3:=BB.out.now.2.2.2.1.cell1;have q4:=BB.out.now.1.cell;have q5:=BB.out.now.1.cell1
      go_wp2_with (go_at_call 193;(with_reducible refine(A1K.out _).mono ?_);rintro e w4 ⟨rfl,hb4⟩;have B4:=BB.out.go hb4;have hs4:=B4.now.1;have hc1:=hs4.cell;have hc2:=hs4.cell1;have hf1:=hs4.free;have hf2:=hs4.free1)
      go_roundw
      case rel=>exact⟨k+1,by omega,by go_num,Lib.hid ⟨((B4.below.setCell (show w.heap.size<=w3.heap.size by omega) _).setCell (show w.heap.size<=w3.heap.size by omega) _),fun x y hb h=>⟨h.1.below hb,RF.stay x y hb h.2⟩,hs4.put2s _ _,B4.now.2.put2 (by omega) (by omega) _ _⟩⟩
      case measure=>simp[intOf];omega
    · have hkt : k = t := by omega
      subst hkt;have d1:=HD2.out;have d2:decide ((k:Int)<2)=true:=decide_eq_true (by omega);obtain⟨c,hc⟩:∃c,cmpZ (QK q k*YA) ZA=c:=⟨_,rfl⟩
      rw[hc]at CMK d1;clear hc HD1 HD2;go_wp2_with fail
      go_region_held3 (fun y => (y.cell? ⟨w.heap.size, 0, none⟩ = some (.bool b) /\ y.cell? ⟨w.heap.size, 1, none⟩ = some (.string s) /\ y.cell? ⟨w.heap.size + 1, 0, none⟩ = some (.bool b2) /\ y.cell? ⟨w.heap.size + 1, 1, none⟩ = some (.string s2) /\ y.cell? ⟨w3.heap.size, 0, none⟩ = some (.bool (rB (QK q k))) /\ y.cell? ⟨w3.heap.size, 1, none⟩ = some (.string (rS (QK q k)))) /\ Bag w (fun y => Slot2 y w3.heap.size (.bool (rB (QK q k))) (.string (rS (QK q k))) /\ RF w.heap.size b s b2 s2 y) y)
       (first
         | (have B9:=BB.out.drew;exact⟨⟨B9.now.2.2.2.2.cell,B9.now.2.2.2.2.cell1,B9.now.2.2.2.1.cell,B9.now.2.2.2.1.cell1,B9.now.1.cell,B9.now.1.cell1⟩,B9⟩)
         | (have B9:=Bag.go (show Bag w (fun y=>Slot2 y w3.heap.size (.bool (rB (QK q k))) (.string (rS (QK q k)))/\RF w.heap.size b s b2 s2 y) _ from by go_split_ands;assumption) hb2;exact⟨⟨B9.now.2.2.2.2.cell,B9.now.2.2.2.2.cell1,B9.now.2.2.2.1.cell,B9.now.2.2.2.1.cell1,B9.now.1.cell,B9.now.1.cell1⟩,B9⟩))
       (first
         | (go_at_call 189;(with_reducible refine(O1.out _).mono ?_);rintro e w2 ⟨rfl,hb2⟩)
         | (go_at_call 189;(with_reducible refine(O2.out _).mono ?_);rintro e w2 ⟨rfl,hb2⟩)
         | (go_at_call 128;(with_reducible refine(MUK.out _).mono ?_);rintro e w2 ⟨rfl,hb2⟩)
         | (go_at_call 127;(with_reducible refine(CMK.out _).mono ?_);rintro e w2 ⟨rfl,hb2⟩))
      have BB:=Lib.hid (show Bag w (fun y=>Slot2 y w3.heap.size (.bool (rB (QK q k))) (.string (rS (QK q k)))/\RF w.heap.size b s b2 s2 y) _ from by go_split_ands;assumption);have q0:=BB.out.now.2.2.2.2.cell;have q1:=BB.out.now.2.2.2.2.cell1;have q2:=BB.out.now.2.2.2.1.cell;have q3:=BB.out.now.2.2.2.1.cell1;have q4:=BB.out.now.1.cell;have q5:=BB.out.now.1.cell1;go_wp2_with fail;obtain⟨ht1,ht2⟩:=HT.out;rw[ht1,ht2]at BB;rw[ht1]at q4;rw[ht2]at q5;clear ht1 ht2
      go_region_held3 (fun y => (y.cell? ⟨w.heap.size, 0, none⟩ = some (.bool b) /\ y.cell? ⟨w.heap.size, 1, none⟩ = some (.string s) /\ y.cell? ⟨w.heap.size + 1, 0, none⟩ = some (.bool b2) /\ y.cell? ⟨w.heap.size + 1, 1, none⟩ = some (.string s2) /\ y.cell? ⟨w3.heap.size, 0, none⟩ = some (.bool qb) /\ y.cell? ⟨w3.heap.size, 1, none⟩ = some (.string sq)) /\ Bag w (fun y => Slot2 y w3.heap.size (.bool qb) (.string sq) /\ RF w.heap.size b s b2 s2 y) y)
       (first
         | (have B9:=BB.out.drew;exact⟨⟨B9.now.2.2.2.2.cell,B9.now.2.2.2.2.cell1,B9.now.2.2.2.1.cell,B9.now.2.2.2.1.cell1,B9.now.1.cell,B9.now.1.cell1⟩,B9⟩)
         | (have B9:=Bag.go (show Bag w (fun y=>Slot2 y w3.heap.size (.bool qb) (.string sq)/\RF w.heap.size b s b2 s2 y) _ from by go_split_ands;assumption) hb2;exact⟨⟨B9.now.2.2.2.2.cell,B9.now.2.2.2.2.cell1,B9.now.2.2.2.1.cell,B9.now.2.2.2.1.cell1,B9.now.1.cell,B9.now.1.cell1⟩,B9⟩)
         | (have B9:=Bag.put2 (show Bag w (fun y=>Slot2 y w3.heap.size (.bool qb) (.string sq)/\RF w.heap.size b s b2 s2 y) _ from by go_split_ands;assumption) (k:=w.heap.size+1+1) (u:=.bool qb) (v:=.string sq) (by omega) (fun h=>⟨h.1.put2o (by omega) _ _,h.2.put2 (by omega) (by omega) _ _⟩);exact⟨⟨B9.now.2.2.2.2.cell,B9.now.2.2.2.2.cell1,B9.now.2.2.2.1.cell,B9.now.2.2.2.1.cell1,B9.now.1.cell,B9.now.1.cell1⟩,B9⟩)
         | (have B9:=Bag.put2 (show Bag w (fun y=>Slot2 y w3.heap.size (.bool qb) (.string sq)/\RF w.heap.size b s b2 s2 y) _ from by go_split_ands;assumption) (k:=w.heap.size+1+1+1) (u:=.bool (rB R)) (v:=.string (rS R)) (by omega) (fun h=>⟨h.1.put2o (by omega) _ _,h.2.put2 (by omega) (by omega) _ _⟩);exact⟨⟨B9.now.2.2.2.2.cell,B9.now.2.2.2.2.cell1,B9.now.2.2.2.1.cell,B9.now.2.2.2.1.cell1,B9.now.1.cell,B9.now.1.cell1⟩,B9⟩))
       (first
         | (go_at_call 128;(with_reducible refine(MU.out _).mono ?_);rintro e w2 ⟨rfl,hb2⟩)
         | (go_at_call 209;(with_reducible refine(MI.out _).mono ?_);rintro e w2 ⟨rfl,hb2⟩)
         | (go_at_call 193; (with_reducible refine (AD.out _).mono ?_); rintro e w2 ⟨rfl, hb2⟩;
             have B7:=Bag.go (show Bag w (fun y=>Slot2 y w3.heap.size (.bool qb) (.string sq)/\RF w.heap.size b s b2 s2 y) _ from by go_split_ands;assumption) hb2;
             obtain⟨x8,z8,hs8⟩:=B7.now.2.1;
             obtain⟨x9,z9,hs9⟩:=B7.now.2.2.1;
             have hc1:=hs8.cell;have hc2:=hs8.cell1;have hc3:=hs9.cell;have hc4:=hs9.cell1;have hf1:=hs8.free;have hf2:=hs8.free1;have hf3:=hs9.free;have hf4:=hs9.free1;
             have HA:=(hs8.put2s (.bool qb) (.string sq)).put2o (show w.heap.size+1+1≠w.heap.size+1+1+1 by omega) (.bool (rB R)) (.string (rS R));
             have HB:=(hs9.put2o (show w.heap.size+1+1+1≠w.heap.size+1+1 by omega) (.bool qb) (.string sq)).put2s (.bool (rB R)) (.string (rS R));
             have e1:=HA.cell;have e2:=HA.cell1;have e3:=HB.cell;have e4:=HB.cell1;
             have HE:Hid (RFloor w (put2 (put2 w2 (w.heap.size+1+1) (.bool qb) (.string sq)) (w.heap.size+1+1+1) (.bool (rB R)) (.string (rS R))) (.returned (.tuple #[.agg #[.bool qb,.string sq],.agg #[.bool (rB R),.string (rS R)]])) (flQ Z Y) (flR Z Y)):=⟨HQ.out,(((B7.below.setCell (show w.heap.size<=w.heap.size+1+1 by omega) _).setCell (show w.heap.size<=w.heap.size+1+1 by omega) _).setCell (show w.heap.size<=w.heap.size+1+1+1 by omega) _).setCell (show w.heap.size<=w.heap.size+1+1+1 by omega) _⟩;
             unfold put2 at HE e1 e2 e3 e4;clear hs8 hs9 HA HB B7))
      all_goals
       go_wp2;exact bodyPost_ret (v:=.tuple #[.agg #[.bool qb,.string sq],.agg #[.bool (rB R),.string (rS R)]]) (by simp[results,Tryz.results210,go_sem,e1,e2,e3,e4]) rfl HE.out
 · go_enter Tryz.func210, Tryz.ntmps210
   go_wp2_with (first
    | (go_at_call 164;(with_reducible refine(DM.out _).mono ?_);rintro e w2 ⟨rfl,hb2⟩;have BB:=Lib.hid (BB.out.go hb2);have q0:=BB.out.now.2.2.2.cell;have q1:=BB.out.now.2.2.2.cell1;have q2:=BB.out.now.2.2.1.cell;have q3:=BB.out.now.2.2.1.cell1;clear hb2)
    | (go_at_call 189;(with_reducible refine(OF.out _).mono ?_);rintro e w3 ⟨rfl,hb3⟩;have hk3:w.heap.size+1+1+1<w3.heap.size:=RX.lt (BB.out.go hb3).now.2.1;have BB:=Lib.hid ((BB.out.go hb3).box2 (.bool true) (.string (rS (QK q 0))) 159);have q0:=BB.out.now.2.2.2.2.cell;have q1:=BB.out.now.2.2.2.2.cell1;have q2:=BB.out.now.2.2.2.1.cell;have q3:=BB.out.now.2.2.2.1.cell1;have q4:=BB.out.now.1.cell;have q5:=BB.out.now.1.cell1;clear hb3))
   go_loopw [9] (fun i wr=>∃k:Nat,k<=t/\i=.int .i64 k/\Hid (Bag w (fun y=>Slot2 y w3.heap.size (.bool (rB (QK q k))) (.string (rS (QK q k)))/\RF w.heap.size b s b2 s2 y) wr))
    (fun i _=>2-(intOf i).toNat)
   case atStart =>
    refine⟨0,by omega,rfl,?_⟩
    show Hid (Bag w (fun y=>Slot2 y w3.heap.size (.bool (rB (QK q 0))) (.string (rS (QK q 0)))/\RF w.heap.size b s b2 s2 y) _)
    rw[hu];exact BB
   case round =>
    obtain⟨k,hk,rfl,BB⟩:=hrel;have q0:=BB.out.now.2.2.2.2.cell;have q1:=BB.out.now.2.2.2.2.cell1;have q2:=BB.out.now.2.2.2.1.cell;have q3:=BB.out.now.2.2.2.1.cell1;have q4:=BB.out.now.1.cell;have q5:=BB.out.now.1.cell1;have MUK:=Lib.hid (MUA.out k (by omega));have CMK:=Lib.hid (CMA.out k (by omega))
    by_cases hkt:k<t
    · have d1 := HD1.out k hkt; have d2 : decide ((k : Int) < 2) = true := decide_eq_true (by omega); obtain ⟨c, hc⟩ : ∃ c, cmpZ (QK q k * YA) ZA = c := ⟨_, rfl⟩
      rw[hc]at CMK d1;have A1K:=Lib.hid (A1.out k (by omega));clear hc HD1 HD2;go_wp2_with fail
      go_region_held3 (fun y => (y.cell? ⟨w.heap.size, 0, none⟩ = some (.bool b) /\ y.cell? ⟨w.heap.size, 1, none⟩ = some (.string s) /\ y.cell? ⟨w.heap.size + 1, 0, none⟩ = some (.bool b2) /\ y.cell? ⟨w.heap.size + 1, 1, none⟩ = some (.string s2) /\ y.cell? ⟨w3.heap.size, 0, none⟩ = some (.bool (rB (QK q k))) /\ y.cell? ⟨w3.heap.size, 1, none⟩ = some (.string (rS (QK q k)))) /\ Bag w (fun y => Slot2 y w3.heap.size (.bool (rB (QK q k))) (.string (rS (QK q k))) /\ RF w.heap.size b s b2 s2 y) y)
       (first
         | (have B9:=BB.out.drew;exact⟨⟨B9.now.2.2.2.2.cell,B9.now.2.2.2.2.cell1,B9.now.2.2.2.1.cell,B9.now.2.2.2.1.cell1,B9.now.1.cell,B9.now.1.cell1⟩,B9⟩)
         | (have B9:=Bag.go (show Bag w (fun y=>Slot2 y w3.heap.size (.bool (rB (QK q k))) (.string (rS (QK q k)))/\RF w.heap.size b s b2 s2 y) _ from by go_split_ands;assumption) hb2;exact⟨⟨B9.now.2.2.2.2.cell,B9.now.2.2.2.2.cell1,B9.now.2.2.2.1.cell,B9.now.2.2.2.1.cell1,B9.now.1.cell,B9.now.1.cell1⟩,B9⟩))
       (first
         | (go_at_call 189;(with_reducible refine(O1.out _).mono ?_);rintro e w2 ⟨rfl,hb2⟩)
         | (go_at_call 189;(with_reducible refine(O2.out _).mono ?_);rintro e w2 ⟨rfl,hb2⟩)
         | (go_at_call 128;(with_reducible refine(MUK.out _).mono ?_);rintro e w2 ⟨rfl,hb2⟩)
         | (go_at_call 127;(with_reducible refine(CMK.out _).mono ?_);rintro e w2 ⟨rfl,hb2⟩))
      have BB:=Lib.hid (show Bag w (fun y=>Slot2 y w3.heap.size (.bool (rB (QK q k))) (.string (rS (QK q k)))/\RF w.heap.size b s b2 s2 y) _ from by go_split_ands;assumption);have q0:=BB.out.now.2.2.2.2.cell;have q1:=BB.out.now.2.2.2.2.cell1;have q2:=BB.out.now.2.2.2.1.cell;have q3:=BB.out.now.2.2.2.1.cell1;have q4:=BB.out.now.1.cell;have q5:=BB.out.now.1.cell1
      go_wp2_with (go_at_call 193;(with_reducible refine(A1K.out _).mono ?_);rintro e w4 ⟨rfl,hb4⟩;have B4:=BB.out.go hb4;have hs4:=B4.now.1;have hc1:=hs4.cell;have hc2:=hs4.cell1;have hf1:=hs4.free;have hf2:=hs4.free1)
      go_roundw
      case rel=>exact⟨k+1,by omega,by go_num,Lib.hid ⟨((B4.below.setCell (show w.heap.size<=w3.heap.size by omega) _).setCell (show w.heap.size<=w3.heap.size by omega) _),fun x y hb h=>⟨h.1.below hb,RF.stay x y hb h.2⟩,hs4.put2s _ _,B4.now.2.put2 (by omega) (by omega) _ _⟩⟩
      case measure=>simp[intOf];omega
    · have hkt : k = t := by omega
      subst hkt;have d1:=HD2.out;have d2:decide ((k:Int)<2)=true:=decide_eq_true (by omega);obtain⟨c,hc⟩:∃c,cmpZ (QK q k*YA) ZA=c:=⟨_,rfl⟩
      rw[hc]at CMK d1;clear hc HD1 HD2;go_wp2_with fail
      go_region_held3 (fun y => (y.cell? ⟨w.heap.size, 0, none⟩ = some (.bool b) /\ y.cell? ⟨w.heap.size, 1, none⟩ = some (.string s) /\ y.cell? ⟨w.heap.size + 1, 0, none⟩ = some (.bool b2) /\ y.cell? ⟨w.heap.size + 1, 1, none⟩ = some (.string s2) /\ y.cell? ⟨w3.heap.size, 0, none⟩ = some (.bool (rB (QK q k))) /\ y.cell? ⟨w3.heap.size, 1, none⟩ = some (.string (rS (QK q k)))) /\ Bag w (fun y => Slot2 y w3.heap.size (.bool (rB (QK q k))) (.string (rS (QK q k))) /\ RF w.heap.size b s b2 s2 y) y)
       (first
         | (have B9:=BB.out.drew;exact⟨⟨B9.now.2.2.2.2.cell,B9.now.2.2.2.2.cell1,B9.now.2.2.2.1.cell,B9.now.2.2.2.1.cell1,B9.now.1.cell,B9.now.1.cell1⟩,B9⟩)
         | (have B9:=Bag.go (show Bag w (fun y=>Slot2 y w3.heap.size (.bool (rB (QK q k))) (.string (rS (QK q k)))/\RF w.heap.size b s b2 s2 y) _ from by go_split_ands;assumption) hb2;exact⟨⟨B9.now.2.2.2.2.cell,B9.now.2.2.2.2.cell1,B9.now.2.2.2.1.cell,B9.now.2.2.2.1.cell1,B9.now.1.cell,B9.now.1.cell1⟩,B9⟩))
       (first
         | (go_at_call 189;(with_reducible refine(O1.out _).mono ?_);rintro e w2 ⟨rfl,hb2⟩)
         | (go_at_call 189;(with_reducible refine(O2.out _).mono ?_);rintro e w2 ⟨rfl,hb2⟩)
         | (go_at_call 128;(with_reducible refine(MUK.out _).mono ?_);rintro e w2 ⟨rfl,hb2⟩)
         | (go_at_call 127;(with_reducible refine(CMK.out _).mono ?_);rintro e w2 ⟨rfl,hb2⟩))
      have BB:=Lib.hid (show Bag w (fun y=>Slot2 y w3.heap.size (.bool (rB (QK q k))) (.string (rS (QK q k)))/\RF w.heap.size b s b2 s2 y) _ from by go_split_ands;assumption);have q0:=BB.out.now.2.2.2.2.cell;have q1:=BB.out.now.2.2.2.2.cell1;have q2:=BB.out.now.2.2.2.1.cell;have q3:=BB.out.now.2.2.2.1.cell1;have q4:=BB.out.now.1.cell;have q5:=BB.out.now.1.cell1;go_wp2_with fail;obtain⟨ht1,ht2⟩:=HT.out;rw[ht1,ht2]at BB;rw[ht1]at q4;rw[ht2]at q5;clear ht1 ht2
      go_region_held3 (fun y => (y.cell? ⟨w.heap.size, 0, none⟩ = some (.bool b) /\ y.cell? ⟨w.heap.size, 1, none⟩ = some (.string s) /\ y.cell? ⟨w.heap.size + 1, 0, none⟩ = some (.bool b2) /\ y.cell? ⟨w.heap.size + 1, 1, none⟩ = some (.string s2) /\ y.cell? ⟨w3.heap.size, 0, none⟩ = some (.bool qb) /\ y.cell? ⟨w3.heap.size, 1, none⟩ = some (.string sq)) /\ Bag w (fun y => Slot2 y w3.heap.size (.bool qb) (.string sq) /\ RF w.heap.size b s b2 s2 y) y)
       (first
         | (have B9:=BB.out.drew;exact⟨⟨B9.now.2.2.2.2.cell,B9.now.2.2.2.2.cell1,B9.now.2.2.2.1.cell,B9.now.2.2.2.1.cell1,B9.now.1.cell,B9.now.1.cell1⟩,B9⟩)
         | (have B9:=Bag.go (show Bag w (fun y=>Slot2 y w3.heap.size (.bool qb) (.string sq)/\RF w.heap.size b s b2 s2 y) _ from by go_split_ands;assumption) hb2;exact⟨⟨B9.now.2.2.2.2.cell,B9.now.2.2.2.2.cell1,B9.now.2.2.2.1.cell,B9.now.2.2.2.1.cell1,B9.now.1.cell,B9.now.1.cell1⟩,B9⟩)
         | (have B9:=Bag.put2 (show Bag w (fun y=>Slot2 y w3.heap.size (.bool qb) (.string sq)/\RF w.heap.size b s b2 s2 y) _ from by go_split_ands;assumption) (k:=w.heap.size+1+1) (u:=.bool qb) (v:=.string sq) (by omega) (fun h=>⟨h.1.put2o (by omega) _ _,h.2.put2 (by omega) (by omega) _ _⟩);exact⟨⟨B9.now.2.2.2.2.cell,B9.now.2.2.2.2.cell1,B9.now.2.2.2.1.cell,B9.now.2.2.2.1.cell1,B9.now.1.cell,B9.now.1.cell1⟩,B9⟩)
         | (have B9:=Bag.put2 (show Bag w (fun y=>Slot2 y w3.heap.size (.bool qb) (.string sq)/\RF w.heap.size b s b2 s2 y) _ from by go_split_ands;assumption) (k:=w.heap.size+1+1+1) (u:=.bool (rB R)) (v:=.string (rS R)) (by omega) (fun h=>⟨h.1.put2o (by omega) _ _,h.2.put2 (by omega) (by omega) _ _⟩);exact⟨⟨B9.now.2.2.2.2.cell,B9.now.2.2.2.2.cell1,B9.now.2.2.2.1.cell,B9.now.2.2.2.1.cell1,B9.now.1.cell,B9.now.1.cell1⟩,B9⟩))
       (first
         | (go_at_call 128;(with_reducible refine(MU.out _).mono ?_);rintro e w2 ⟨rfl,hb2⟩)
         | (go_at_call 209;(with_reducible refine(MI.out _).mono ?_);rintro e w2 ⟨rfl,hb2⟩)
         | (go_at_call 193; (with_reducible refine (AD.out _).mono ?_); rintro e w2 ⟨rfl, hb2⟩;
             have B7:=Bag.go (show Bag w (fun y=>Slot2 y w3.heap.size (.bool qb) (.string sq)/\RF w.heap.size b s b2 s2 y) _ from by go_split_ands;assumption) hb2;
             obtain⟨x8,z8,hs8⟩:=B7.now.2.1;
             obtain⟨x9,z9,hs9⟩:=B7.now.2.2.1;
             have hc1:=hs8.cell;have hc2:=hs8.cell1;have hc3:=hs9.cell;have hc4:=hs9.cell1;have hf1:=hs8.free;have hf2:=hs8.free1;have hf3:=hs9.free;have hf4:=hs9.free1;
             have HA:=(hs8.put2s (.bool qb) (.string sq)).put2o (show w.heap.size+1+1≠w.heap.size+1+1+1 by omega) (.bool (rB R)) (.string (rS R));
             have HB:=(hs9.put2o (show w.heap.size+1+1+1≠w.heap.size+1+1 by omega) (.bool qb) (.string sq)).put2s (.bool (rB R)) (.string (rS R));
             have e1:=HA.cell;have e2:=HA.cell1;have e3:=HB.cell;have e4:=HB.cell1;
             have HE:Hid (RFloor w (put2 (put2 w2 (w.heap.size+1+1) (.bool qb) (.string sq)) (w.heap.size+1+1+1) (.bool (rB R)) (.string (rS R))) (.returned (.tuple #[.agg #[.bool qb,.string sq],.agg #[.bool (rB R),.string (rS R)]])) (flQ Z Y) (flR Z Y)):=⟨HQ.out,(((B7.below.setCell (show w.heap.size<=w.heap.size+1+1 by omega) _).setCell (show w.heap.size<=w.heap.size+1+1 by omega) _).setCell (show w.heap.size<=w.heap.size+1+1+1 by omega) _).setCell (show w.heap.size<=w.heap.size+1+1+1 by omega) _⟩;
             unfold put2 at HE e1 e2 e3 e4;clear hs8 hs9 HA HB B7))
      all_goals
       go_wp2;exact bodyPost_ret (v:=.tuple #[.agg #[.bool qb,.string sq],.agg #[.bool (rB R),.string (rS R)]]) (by simp[results,Tryz.results210,go_sem,e1,e2,e3,e4]) rfl HE.out
theorem rFloor_any (Z Y : Int) (w : World) (hl : dl Z.natAbs <= 400) (hl2 : dl Y.natAbs <= 400) (hY : Y ≠ 0) :
    Calls Tryz.prog 210 #[.agg #[.bool (rB Z),.string (rS Z)],.agg #[.bool (rB Y),.string (rS Y)]] w fun e w'=>RFloor w w' e (flQ Z Y) (flR Z Y):=by
 by_cases hs:rB Z=rB Y
 · exact rFloor_same Z Y w hl hl2 hY hs
 · exact rFloor_apart Z Y w hl hl2 hY hs
end Go.Proofs.YtdmmenaejkpnjaaGreatDoor
