/-
  Texts of this seat, laid together.
-/
import Derived.Laws.StructEq
import Derived.ChangeKeysEq
import Derived.Lib.AppendZeros
import Derived.Laws.AppendOwnNone
import Derived.Shelf.Abstract
import Derived.Test.YtdmmenaejkpnjaaGreatDoorI5
set_option maxHeartbeats 12800000
set_option maxRecDepth 100000
set_option linter.unusedSimpArgs false
set_option linter.unusedVariables false
namespace Go.Proofs.YtdmmenaejkpnjaaGreatDoor
open Go.RowKit
theorem isChar_any (ch : Bool) (more : Int) (d : Nat -> Int) (na : Option Addr) (nn nc : Nat) (ta : Option Addr) (tn tc : Nat) (w : World) :
    Calls Tryz.prog 41 #[.agg (arrC ch more d na nn nc ta tn tc)] w fun e w'=>e=.returned (.bool ch)/\Below w.heap.size w w':=by
 have HB:Hid (Below w.heap.size w (w.alloc (.cells (arrC ch more d na nn nc ta tn tc) 36))):=(Below.refl _ _).alloc (Nat.le_refl _) _;unfold arrC at HB;unfold arrC;go_enter Tryz.func41,Tryz.ntmps41;go_wp2;go_ret;exact⟨rfl,HB.out⟩
def elC(n:Nat)(g:Nat->Int)(z i:Int):Int:=if 0<=i/\i<n then g i.toNat else z
def CTo(w:World)(g n k:Nat)(f:Nat->Int):Prop:=g<w.heap.size/\Free w g/\∀j,j<n->∃z,w.cell? ⟨g,j,none⟩=some (.int .i32 z)/\(j<k->z=f j)
theorem CTo.over{w:World}{g n k:Nat}{f:Nat->Int}(h:CTo w g n k f)(x:Int):CTo (w.setCell ⟨g,k,none⟩ (.int .i32 x)) g n k f:=by
 obtain⟨h1,h2,h3⟩:=h;refine⟨by simpa using h1,h2.set _ _,fun j hj => ?_⟩
 by_cases e:j=k
 · subst e;obtain⟨z,e1,_⟩:=h3 j hj;exact⟨x,World.cell?_setCell_same _ _ _ e1,fun h=>absurd h (Nat.lt_irrefl _)⟩
 · obtain⟨z,e1,e2⟩:=h3 j hj;exact⟨z,by rw[World.cell?_setCell_other _ _ _ _ (fun h=>by injection h with _ h;omega)];exact e1,e2⟩
theorem CTo.step{w:World}{g n k:Nat}{f:Nat->Int}(h:CTo w g n k f)(hk:k<n){x:Int}(hx:x=f k):CTo (w.setCell ⟨g,k,none⟩ (.int .i32 x)) g n (k+1) f:=by
 subst hx;obtain⟨h1,h2,h3⟩:=h;refine⟨by simpa using h1,h2.set _ _,fun j hj => ?_⟩
 by_cases e:j=k
 · subst e;obtain⟨z,e1,_⟩:=h3 j hj;exact⟨f j,World.cell?_setCell_same _ _ _ e1,fun _=>rfl⟩
 · obtain⟨z,e1,e2⟩:=h3 j hj;exact⟨z,by rw[World.cell?_setCell_other _ _ _ _ (fun h=>by injection h with _ h;omega)];exact e1,fun h=>e2 (by omega)⟩
theorem CTo.done{w:World}{g n:Nat}{f:Nat->Int}(h:CTo w g n n f)(hn:n<=maxLen):KRow w .i32 (some ⟨g,0,none⟩) n n f:=by
 refine⟨Nat.le_refl _,hn,.inr ⟨g,0,rfl,h.1,fun j hj => ?_⟩⟩;obtain⟨z,e1,e2⟩:=h.2.2 j hj;rw[Nat.zero_add,e1,e2 hj]
theorem CTo.made(w:World)(n:Nat)(t:TypeId)(f:Nat->Int){mc:Array Value}(hmc:mc=madeCells (Value.cells (.int .i32 0)) n):CTo (w.alloc (.cells mc t)) w.heap.size n 0 f:=by
 subst hmc;have hR:=Row.new w t (madeCells (Value.cells (.int .i32 0)) n);refine⟨hR.lt,fun o=>hR.free o,fun j hj=>⟨0,?_,fun h=>absurd h (Nat.not_lt_zero _)⟩⟩;rw[hR.cell];unfold madeCells;rw[Array.getElem?_map,Array.getElem?_range,if_pos (by omega),Option.map_some]
 simp[Value.cells,Nat.mod_one]
theorem CTo.place{w:World}{g n k:Nat}{f:Nat->Int}(h:CTo w g n k f){j:Nat}(hj:j<n):(∃z,w.cell? ⟨g,j,none⟩=some (.int .i32 z))/\w.frozen? ⟨g,j,none⟩=false:=by
 obtain⟨z,e1,_⟩:=h.2.2 j hj;exact⟨⟨z,e1⟩,h.2.1 _⟩
theorem pickRunes_any (cs : Array Value) (f : Nat -> Int) (r n : Nat) (T : Nat -> Int) (sa : Option Addr) (sn sc : Nat) (g : Nat -> Int) (w : World) (h : ChrArr w cs f r n T) (hs : KRow w .i64 sa sn sc g) (hg : In64 g sn) (hn : sn <= 1000000) :
    Calls Tryz.prog 159 #[.agg cs,.slice sa sn sc] w fun e w'=>∃a c,e=.returned (.slice a sn c)/\KRow w' .i32 a sn c (fun j=>elC n T 32 (g j))/\Below w.heap.size w w':=by
 obtain⟨i0,hi,hz0,hz1,hz2⟩:=info_parts infoC;have hmk:=fun wz=>run_make (P:=Tryz.prog) wz 23 21 i0 _ Tryz.underlying23 hi hz0 .i64 .i64 sn sn (by omega) (by omega) (by rw[hz2];omega) (by omega)
 simp only[Int.toNat_natCast,hz1,Nat.mul_one]at hmk;have HK:=Lib.hid hs;have HG:=Lib.hid hg;have hl:=hs.len;obtain⟨ta,tc,rfl,ht⟩:=h;have HT:=Lib.hid ht;have hlt0:=ht.len;have hR0:Row (w.alloc (.cells (arrC true ((r:Int)-1) (dm f r) none 0 0 ta n tc) 36)) w.heap.size 36 _:=Row.new _ _ _
 have H0:Hid (Below w.heap.size w ((w.alloc (.cells (arrC true ((r:Int)-1) (dm f r) none 0 0 ta n tc) 36)).alloc (.cells (madeCells (Value.cells (.int .i32 0)) sn) 21))/\Row ((w.alloc (.cells (arrC true ((r:Int)-1) (dm f r) none 0 0 ta n tc) 36)).alloc (.cells (madeCells (Value.cells (.int .i32 0)) sn) 21)) w.heap.size 36 (arrC true ((r:Int)-1) (dm f r) none 0 0 ta n tc)/\CTo ((w.alloc (.cells (arrC true ((r:Int)-1) (dm f r) none 0 0 ta n tc) 36)).alloc (.cells (madeCells (Value.cells (.int .i32 0)) sn) 21)) (w.heap.size+1) sn 0 (fun j=>elC n T 32 (g j))) :=
  ⟨((Below.refl _ _).alloc (Nat.le_refl _) _).alloc (by simp) _,hR0.below ((Below.refl _ _).alloc (Nat.le_refl _) _),by have:=CTo.made (w.alloc (.cells (arrC true ((r:Int)-1) (dm f r) none 0 0 ta n tc) 36)) sn 21 (fun j=>elC n T 32 (g j)) rfl;rwa [World.size_alloc]at this⟩
 generalize hsh:(r:Int)-1=more at *;generalize dm f r=d at *;unfold arrC at H0;unfold arrC;clear ht hs hg hi hz0 hz1 hz2 hR0 hsh;go_enter Tryz.func159,Tryz.ntmps159;go_wp2_with fail
 go_loopw [13] (fun i wr=>∃k:Nat,k<=sn/\i=.int .i64 k/\Hid (Below w.heap.size w wr/\Row wr w.heap.size 36 (arrC true more d none 0 0 ta n tc)/\CTo wr (w.heap.size+1) sn k (fun j=>elC n T 32 (g j)))) (fun i _=>sn-(intOf i).toNat)
 case atStart=>exact⟨0,by omega,rfl,H0.out⟩
 case round =>
  obtain⟨k,hk,rfl,hrel⟩:=hrel;obtain⟨hbl,hrow,hto⟩:=hrel.out;have hwr:=hbl.size
  by_cases hlt:k<sn
  · obtain ⟨b, off, rfl, hb, hc⟩ := (HK.out.below hbl).get hlt; obtain ⟨⟨z0, x1⟩, y1⟩ := hto.place hlt; have q11 : wr.cell? ⟨w.heap.size, 11, none⟩ = some (.slice ta n tc) := hrow.cell 11; have ne0 : w.heap.size ≠ w.heap.size + 1 := by omega
    by_cases hin:0<=g k/\g k<n
    · obtain ⟨h0, h1⟩ := hin; obtain ⟨q, hq⟩ : ∃ q : Nat, g k = q := ⟨(g k).toNat, by omega⟩
      have hqn:q<n:=by omega
      have hv:elC n T 32 (g k)=T q:=by unfold elC;rw[if_pos ⟨h0,h1⟩,hq];rfl
      obtain⟨b2,off2,rfl,hb2,hc2⟩:=(HT.out.below hbl).get hqn;rw[hq]at hc h0 h1
      have nb:b2≠w.heap.size+1:=by
       have:=HT.out.get hqn;obtain⟨b3,o3,e3,hb3,_⟩:=this
       injection e3 with e3;injection e3 with e3 _ _
       omega
      have HN:Hid (Below w.heap.size w ((wr.setCell ⟨w.heap.size+1,k,none⟩ (.int .i32 32)).setCell ⟨w.heap.size+1,k,none⟩ (.int .i32 (T q))) /\
          Row ((wr.setCell ⟨w.heap.size+1,k,none⟩ (.int .i32 32)).setCell ⟨w.heap.size+1,k,none⟩ (.int .i32 (T q))) w.heap.size 36 (arrC true more d none 0 0 (some ⟨b2,off2,none⟩) n tc) /\
          CTo ((wr.setCell ⟨w.heap.size+1,k,none⟩ (.int .i32 32)).setCell ⟨w.heap.size+1,k,none⟩ (.int .i32 (T q))) (w.heap.size+1) sn (k+1) (fun j=>elC n T 32 (g j))) :=
       ⟨(hbl.setCell (p:=⟨w.heap.size+1,_,none⟩) (Nat.le_succ _) _).setCell (p:=⟨w.heap.size+1,_,none⟩) (Nat.le_succ _) _,
         (hrow.far (a:=⟨w.heap.size+1,_,none⟩) ne0 _).far (a:=⟨w.heap.size+1,_,none⟩) ne0 _,(hto.over 32).step hlt hv.symm⟩
      clear hbl hrow hto hq hv;generalize T q=y at *;go_wp2
      go_roundw
      case rel=>exact⟨k+1,by omega,by go_num,HN.out⟩
      case measure=>simp[intOf];omega
    · have hv:elC n T 32 (g k)=32:=by unfold elC;rw[if_neg hin]
      have HN:Hid (Below w.heap.size w (wr.setCell ⟨w.heap.size+1,k,none⟩ (.int .i32 32))/\Row (wr.setCell ⟨w.heap.size+1,k,none⟩ (.int .i32 32)) w.heap.size 36 (arrC true more d none 0 0 ta n tc)/\CTo (wr.setCell ⟨w.heap.size+1,k,none⟩ (.int .i32 32)) (w.heap.size+1) sn (k+1) (fun j=>elC n T 32 (g j))) :=
       ⟨hbl.setCell (p:=⟨w.heap.size+1,_,none⟩) (Nat.le_succ _) _,hrow.far (a:=⟨w.heap.size+1,_,none⟩) ne0 _,hto.step hlt hv.symm⟩
      clear hbl hrow hto hv;generalize g k=x at *
      by_cases h0:0<=x
      · have h1:¬x<(n:Int):=by omega
        clear hin;go_wp2
        go_roundw
        case rel=>exact⟨k+1,by omega,by go_num,HN.out⟩
        case measure=>simp[intOf];omega
      · clear hin;go_wp2
        go_roundw
        case rel=>exact⟨k+1,by omega,by go_num,HN.out⟩
        case measure=>simp[intOf];omega
  · obtain rfl:k=sn:=by omega
    have HE:Hid (KRow wr .i32 (some ⟨w.heap.size+1,0,none⟩) k k (fun j=>elC n T 32 (g j))/\Below w.heap.size w wr):=⟨hto.done (by unfold maxLen;omega),hbl⟩
    clear hbl hrow hto;go_wp2;go_ret;exact⟨_,_,rfl,HE.out⟩
theorem pickC_any (cs : Array Value) (f : Nat -> Int) (r n : Nat) (T : Nat -> Int) (sa : Option Addr) (sr sc : Nat) (S : Nat -> Int) (ta : Option Addr) (tn tc : Nat) (g : Nat -> Int) (w : World) (h : ChrArr w cs f r n T)
    (hs:KRow w .i64 sa sr sc S) (hS:In64 S sr) (ht:KRow w .i64 ta tn tc g) (hg:In64 g tn) (hn:tn<=1000000) :
    Calls Tryz.prog 92 #[.agg cs,.slice sa sr sc,.slice ta tn tc] w fun e w'=>CharsTold (shB S sr&&decide (itm S sr=tn)) S sr tn (fun j=>elC n T 32 (g j)) w w' e:=by
 have HA:=Lib.hid h;obtain⟨na,nc,rfl,hr⟩:=h;have PR:=Lib.hid (fun wz h h2=>pickRunes_any (arrC true ((r:Int)-1) (dm f r) none 0 0 na n nc) f r n T ta tn tc g wz h h2 hg hn);have NU:=Lib.hid (fun la lc wz (h:KRow wz .i64 sa sr sc S) h2=>chars_any sa sr sc S la tn lc (fun j=>elC n T 32 (g j)) wz h hS h2 hn);unfold CharsTold at NU;have HS:=Lib.hid hs;have HT:=Lib.hid ht;have BB:=Lib.hid (((Bag.start w).newRow (arrC true ((r:Int)-1) (dm f r) none 0 0 na n nc) 36).newRow zerC 36);simp only[World.size_alloc]at BB;generalize hb:(shB S sr&&decide (itm S sr=tn))=b at *;have HR1:=Lib.hid BB.out.now.2.1;clear hr hs hS ht hg hb;unfold arrC;go_enter Tryz.func92,Tryz.ntmps92
 go_wp2_with (refine ld_arr rfl (.tmp 3) rfl w.heap.size rfl HR1.out ?_)
 go_at_call 159
 refine(PR.out _ ?_ ?_).mono ?_
 · exact HA.out.below BB.out.below
 · exact HT.out.below BB.out.below
 rintro e w2 ⟨a2,c2,rfl,hr2,hb2⟩;have BB:=Lib.hid ((BB.out.go hb2).krow hr2);clear hr2 hb2;go_wp2_with fail;go_at_call 42
 refine(NU.out _ _ _ ?_ ?_).mono ?_
 · exact HS.out.below BB.out.below
 · exact BB.out.now.1
 rintro e w3 ⟨cs3,rfl,hcs,hb3⟩;have B3:=BB.out.go hb3;have hr0:=B3.now.2.1;have HR0:=Lib.hid hr0;have HBL:=Lib.hid B3.below
 have HE:Hid (∃ch more d na nn nc ta tn' tc,cs3=arrC ch more d na nn nc ta tn' tc/\CharsTold b S sr tn (fun j=>elC n T 32 (g j)) w (w3.setRow (w.heap.size+1) cs3) (.returned (.tuple #[.agg cs3,.bool b]))):=by
  cases b with
  | false =>
   rw[if_neg (by decide)]at hcs;subst hcs;exact⟨false,0,fun _=>0,none,0,0,none,0,0,rfl,zerC,rfl,by rw[if_neg (by decide)],below_put HBL.out (Nat.le_succ _) _⟩
  | true =>
   rw[if_pos rfl]at hcs;obtain⟨na3,nc3,rfl,hr3⟩:=hcs;exact⟨_,_,_,_,_,_,_,_,_,rfl,_,rfl,by rw[if_pos rfl];exact⟨na3,nc3,rfl,hr3.away (KRow.ne hr3 (by decide) (zerC_row▸hr0)) (Far.setRow _ _ _)⟩,below_put HBL.out (Nat.le_succ _) _⟩
 clear hcs hb3 B3 hr0;obtain⟨ch,more,d,na3,nn3,nc3,ta3,tn3,tc3,rfl,HE⟩:=HE.out;have HE:=Lib.hid HE
 go_wp2_with (refine st_arr rfl (.tmp 6) (.tmp 15) rfl (w.heap.size+1) rfl _ _ _ _ _ _ _ _ _ rfl HR0.out rfl ?_)
 exact bodyPost_ret (res_arr2 Tryz.results92 rfl rfl (HR0.out.put _) rfl) rfl HE.out
theorem wholeC_any (cs : Array Value) (f : Nat -> Int) (r n : Nat) (T : Nat -> Int) (w : World) (h : ChrArr w cs f r n T) (hn : n <= 1000000) :
    Calls Tryz.prog 161 #[.agg cs] w fun e w'=>WhTold (decide (n=0)) 0 (fun _=>0) w w' e:=by
 obtain⟨i0,hi,hz0,hz1,hz2⟩:=info_parts infoI;have hmk:=fun wz=>run_make (P:=Tryz.prog) wz 22 3 i0 _ Tryz.underlying22 hi hz0 .i64 .i64 0 0 (by omega) (by omega) (by rw[hz2];omega) (by omega)
 simp only[hz1,Nat.mul_one]at hmk;obtain⟨ta,tc,rfl,ht⟩:=h
 by_cases h0:n=0
 · subst h0;rw[decide_eq_true rfl]
   have H0:Hid (WhTold true 0 (fun _=>0) w ((w.alloc (.cells (arrC true ((r:Int)-1) (dm f r) none 0 0 ta 0 tc) 36)).alloc (.cells (madeCells (Value.cells (.int .i64 0)) 0) 3)) (.returned (.tuple #[.slice (some ⟨w.heap.size+1,0,none⟩) 0 0,.bool true]))) :=
    Lib.hid ⟨_,_,_,rfl,by rw[if_pos rfl];exact⟨rfl,KRow.nought _ _ _ _ (Nat.zero_le _) _⟩,((Below.refl _ _).alloc (Nat.le_refl _) _).alloc (by simp) _⟩
   unfold arrC at H0;unfold arrC;clear ht hi hz0 hz1 hz2;go_enter Tryz.func161,Tryz.ntmps161;go_wp2_with fail
   go_loopw [20] (fun i wr=>i=.int .i64 0/\Hid (wr=(w.alloc (.cells #[.bool true,.int .i64 ((r:Int)-1),.int .i64 (dm f r 0),.int .i64 (dm f r 1),.int .i64 (dm f r 2),.int .i64 (dm f r 3),.int .i64 (dm f r 4),.int .i64 (dm f r 5),.int .i64 (dm f r 6),.int .i64 (dm f r 7),.slice none 0 0,.slice ta 0 tc] 36)).alloc (.cells (madeCells (Value.cells (.int .i64 0)) 0) 3))) (fun _ _=>0)
   case atStart=>exact⟨rfl,rfl⟩
   case round =>
    obtain⟨rfl,hrel⟩:=hrel;obtain rfl:=hrel.out;go_wp2;go_ret2;exact H0.out
 · rw[decide_eq_false h0];have d1:(0:Int)<n:=by omega
   have H0:Hid (WhTold false 0 (fun _=>0) w (w.alloc (.cells (arrC true ((r:Int)-1) (dm f r) none 0 0 ta n tc) 36)) (.returned (.tuple #[.slice none 0 0,.bool false]))) :=
    Lib.hid ⟨_,_,_,rfl,by rw[if_neg (by decide)];exact⟨rfl,rfl,rfl⟩,(Below.refl _ _).alloc (Nat.le_refl _) _⟩
   unfold arrC at H0;unfold arrC;clear ht hi hz0 hz1 hz2 h0 hmk;go_enter Tryz.func161,Tryz.ntmps161;go_wp2;go_ret2;exact H0.out
def CmpOk(K:Nat)(fP:Nat->Int)(fQ:Nat->Nat)(n:Nat):Prop:=∀j,j<n->0<fQ j/\(fP j).natAbs<4294967296^K/\fQ j<4294967296^K
def eus(A B:Nat):Nat:=if h:B=0 then 0 else eus B (A%B)+1
termination_by B
decreasing_by exact Nat.mod_lt _ (Nat.pos_of_ne_zero h)
theorem eus_zero(A:Nat):eus A 0=0:=by unfold eus;rw[dif_pos rfl]
theorem eus_step(A:Nat){B:Nat}(h:B≠0):eus A B=eus B (A%B)+1:=by rw[eus,dif_neg h]
theorem eus_le:∀k A B,B<2^k->eus A B<=2*k+1:=by
 intro k
 induction k with
 | zero =>
  intro A B h;obtain rfl:B=0:=by simpa using h
  rw[eus_zero];omega
 | succ k ih =>
  intro A B h
  by_cases h0:B=0
  · subst h0;rw[eus_zero];omega
  · rw[eus_step A h0];have h1:=Nat.mod_lt A (Nat.pos_of_ne_zero h0);obtain⟨C,hC⟩:∃C,A%B=C:=⟨_,rfl⟩
    rw[hC]at h1 ⊢
    by_cases hc0:C=0
    · subst hc0;rw[eus_zero];omega
    · rw[eus_step B hc0];have h2:=Nat.mod_lt B (Nat.pos_of_ne_zero hc0);have h3:=Nat.div_add_mod B C;have h4:1<=B / C:=Nat.div_pos (by omega) (Nat.pos_of_ne_zero hc0);have h5:C*1<=C*(B / C):=Nat.mul_le_mul_left _ h4;have h6:B%C<2^k:=by rw[Nat.pow_succ]at h;omega
      have:=ih C (B%C) h6
      omega
theorem gcd_step(A B:Nat):Nat.gcd B (A%B)=Nat.gcd A B:=by
 rw[Nat.gcd_comm A B,Nat.gcd_rec B A,Nat.gcd_comm]
theorem dec_isnt0(N:Nat):((str (dec N)).toList == [48])=decide (N=0):=by
 have e:(str (dec N)).toList=dec N:=by rw[ByteArray.toList_eq];rfl
 rw[e,Bool.eq_iff_iff,beq_iff_eq,decide_eq_true_eq]
 constructor
 · intro h;have:=congrArg numOf h;unfold dec at this;rw[numOf_sdig,Nat.mod_eq_of_lt (dl_lt N)]at this
   simpa[numOf]using this
 · intro h;rw[h,dec_zero]
theorem dl_mod{A B:Nat}(h:0<B):dl (A%B)<=dl B:=dl_le _ _ (dl_pos B) (Nat.lt_trans (Nat.mod_lt _ h) (dl_lt B))
theorem rgcd_any (x y : Nat) (w : World) (hx : dl x <= 900) (hy : dl y <= 900) (k0 : Nat) (hk0 : k0 <= 4000) (hy2 : y < 2 ^ k0) :
    Calls Tryz.prog 112 #[.string (str (dec x)),.string (str (dec y))] w fun e w'=>e=.returned (.string (str (dec (Nat.gcd x y))))/\Below w.heap.size w w':=by
 have hst:0+eus x y<=10000:=by have:=eus_le k0 x y hy2;omega
 obtain⟨a0,ha0⟩:∃a0,str (dec x)=a0:=⟨_,rfl⟩
 obtain⟨b0,hb0⟩:∃b0,str (dec y)=b0:=⟨_,rfl⟩
 rw[ha0,hb0];have H0:Hid (a0=str (dec x)/\b0=str (dec y)/\dl x<=900/\dl y<=900/\0+eus x y<=10000):=⟨ha0.symm,hb0.symm,hx,hy,hst⟩
 clear hst ha0 hb0 hx hy hy2 hk0;go_enter Tryz.func112,Tryz.ntmps112;go_wp2
 go_loopw [0,1,5] (fun a b i wr=>∃(k A B:Nat) (s t:ByteArray),a=.string s/\b=.string t/\i=.int .i64 k/\k<=10000/\Hid (s=str (dec A)/\t=str (dec B)/\dl A<=900/\dl B<=900/\k+eus A B<=10000/\Nat.gcd A B=Nat.gcd x y)/\Below w.heap.size w wr)
  (fun _ _ i _=>20000-(intOf i).toNat)
 case atStart=>exact⟨0,x,y,_,_,rfl,rfl,rfl,by omega,⟨H0.out.1,H0.out.2.1,H0.out.2.2.1,H0.out.2.2.2.1,H0.out.2.2.2.2,rfl⟩,Below.refl _ _⟩
 case round =>
  obtain⟨k,A,B,s,t,rfl,rfl,rfl,hk,hr,hbl⟩:=hrel;have hz:=dec_isnt0 B;rw[← hr.out.2.1]at hz;have d1:decide ((k:Int)<20000)=true:=decide_eq_true (by omega)
  by_cases h0:B=0
  · rw[decide_eq_true h0]at hz
    have HE:Hid (s=str (dec (Nat.gcd x y))):=by
     show _=_
     rw[hr.out.1,← hr.out.2.2.2.2.2,h0,Nat.gcd_zero_right]
    have HBL:=Lib.hid hbl;clear hr hbl h0;go_wp2;go_ret;exact⟨ret_str HE.out,HBL.out⟩
  · rw[decide_eq_false h0]at hz;have hB0:0<B:=Nat.pos_of_ne_zero h0;have DM:=fun wz=>rdivMod_any A B wz hr.out.2.2.1 hr.out.2.2.2.1 hB0
    rw[← hr.out.1,← hr.out.2.1]at DM;obtain⟨u,hu⟩:∃u,str (dec (A / B))=u:=⟨_,rfl⟩
    obtain⟨v,hv⟩:∃v,str (dec (A%B))=v:=⟨_,rfl⟩
    rw[hu,hv]at DM;have hes:=eus_step A h0;have hkk:k+1<=10000:=by have:=hr.out.2.2.2.2.1;omega
    have HN:Hid (t=str (dec B)/\v=str (dec (A%B))/\dl B<=900/\dl (A%B)<=900/\(k+1)+eus B (A%B)<=10000/\Nat.gcd B (A%B)=Nat.gcd x y) :=
     ⟨hr.out.2.1,hv.symm,hr.out.2.2.2.1,Nat.le_trans (dl_mod hB0) hr.out.2.2.2.1,by have:=hr.out.2.2.2.2.1;omega,by rw[gcd_step];exact hr.out.2.2.2.2.2⟩
    have HD:=Lib.hid DM;have HBL:=Lib.hid hbl;clear DM hu hv hes hr hbl h0 hB0;go_wp2_with fail;go_at_call 164;refine(HD.out _).mono ?_;rintro e w2 ⟨rfl,hb2⟩;have HB2:=Lib.hid (HBL.out.trans (hb2.mono HBL.out.size));clear hb2;go_wp2
    go_roundw
    case rel=>exact⟨k+1,B,A%B,_,_,rfl,rfl,by go_num,hkk,HN.out,HB2.out⟩
    case measure=>simp[intOf];omega
end Go.Proofs.YtdmmenaejkpnjaaGreatDoor
namespace Go.Proofs.YtdmmenaejkpnjaaGreatDoor
open Go.RowKit
attribute [local go_sem ↓] Go.wp_at_zero Go.wp_at_succ
theorem dec1:str (dec 1)=⟨#[49]⟩:=by rw[dec_small (by omega)];rfl
theorem r3Top_any(P:Int)(t:ByteArray)(w:World)(hl:dl P.natAbs<=10000000):Calls Tryz.prog 129 #[.agg #[.bool (rB P),.string (rS P),.string t]] w fun e w'=>RTold w w' e P:=by
 have B0:=((Bag.start w).box3 (.bool (rB P)) (.string (rS P)) (.string t) 46).box2 (.bool false) (.string ⟨#[]⟩) 159;simp only[World.size_alloc]at B0
 have OF:Hid (∀wz,Calls Tryz.prog 189 #[.bool (rB P),.string (rS P)] wz fun e w'=>RTold wz w' e P):=by
  intro wz;have h1:=rOf_dec (rB P) P.natAbs wz hl;rw[show sgn (rB P) P.natAbs=P from sgn_self P]at h1;exact h1
 have BB:=Lib.hid B0;have HF:=Lib.hid (fun w2 b s (hb:Below w.heap.size w w2) (h1:rB P=b) (h2:rS P=s)=>RTold.fin (Y:=P) hb (show w.heap.size<=w.heap.size+1 by omega) h1 h2);obtain⟨b,hb⟩:∃b,rB P=b:=⟨_,rfl⟩
 obtain⟨s,hs⟩:∃s,rS P=s:=⟨_,rfl⟩
 have HB:=Lib.hid hb;have HS2:=Lib.hid hs;unfold RTold at OF;rw[hb,hs]at OF BB;rw[hb,hs];clear B0 hl hb hs;go_enter Tryz.func129,Tryz.ntmps129;go_wp2_with fail;go_at_call 189;refine(OF.out _).mono ?_;rintro e w2 ⟨rfl,hb2⟩;have BB:=bgo BB hb2;have hs2:=BB.out.now.1;have hc1:=hs2.cell;have hc2:=hs2.cell1;have hf1:=hs2.free;have hf2:=hs2.free1;have HS:=hs2.set (.bool b) (.string s);have HE:=Lib.hid (HF.out w2 b s BB.out.below HB.out HS2.out);unfold put2 at HE;clear hb2 hs2;go_wp2;exact bodyPost_ret (by simp[results,Tryz.results129,go_sem,HS]) rfl HE.out
theorem dec_is1(N:Nat):((str (dec N)).toList == [49])=decide (N=1):=dec_eq_digit N 1 (by omega)
theorem r3From_any(X:Int)(w:World)(h : -9223372036854775808<=X/\X<=9223372036854775807):Calls Tryz.prog 57 #[.int .i64 X] w fun e w'=>NumTold w w' e X 1:=by
 have FR:=Lib.hid (fun wz=>rFrom_any X wz h);unfold RTold at FR;have BB:=Lib.hid ((Bag.start w).box3 (.bool false) (.string ⟨#[]⟩) (.string ⟨#[]⟩) 46);have HF:=Lib.hid (fun w2 b x y (hb:Below w.heap.size w w2) (h1:rB X=b) (h2:rS X=x) (h3:str (dec 1)=y)=>NumTold.done (k:=w.heap.size) X 1 hb (Nat.le_refl _) h1 h2 h3);obtain⟨b,hb⟩:∃b,rB X=b:=⟨_,rfl⟩
 obtain⟨s,hs⟩:∃s,rS X=s:=⟨_,rfl⟩
 have HB:=Lib.hid hb;have HS2:=Lib.hid hs;rw[hb,hs]at FR;clear hb hs h;go_enter Tryz.func57,Tryz.ntmps57;go_wp2_with fail;go_at_call 119;refine(FR.out _).mono ?_;rintro e w2 ⟨rfl,hb2⟩;have BB:=Lib.hid ((BB.out.go hb2).box2 (.bool b) (.string s) 159);have q0:=BB.out.now.1.cell;have q1:=BB.out.now.1.cell1;have hs:=BB.out.now.2.1;have⟨u0,u1,u2,g0,g1,g2⟩:=hs.s6;have HS:=hs.set (.bool b) (.string s) (.string ⟨#[49]⟩);have HE:=Lib.hid (HF.out _ b s ⟨#[49]⟩ BB.out.below HB.out HS2.out dec1);clear hs hb2;go_wp2;exact bodyPost_ret (by simp[results,Tryz.results57,go_sem,HS]) rfl HE.out
end Go.Proofs.YtdmmenaejkpnjaaGreatDoor
namespace Go.Proofs.YtdmmenaejkpnjaaGreatDoor
open Go.RowKit
def PlnTold(S:Nat->Int)(r:Nat)(ch:Bool)(g:Nat->Int)(tn:Nat)(fB:Nat->Bool)(fS fT:Nat->ByteArray)(nn:Nat)(w w':World)(e:Ending):Prop:=∃cs,e=.returned (.agg cs)/\PlnAt w' cs S r ch g tn fB fS fT nn/\Below w.heap.size w w'
theorem res_pln {fn : Func} {p : Tmp} {tmps : Array Value} {w : World} {g : Nat} {cs : Array Value} (h : fn.results = #[.cell p 26]) (hp : tmps.getD p undef = .pointer (some ⟨g, 0, none⟩)) (hg : Row w g 26 cs) (hs : cs.size = 4) :
    (results fn tmps).run Tryz.prog w=.ok (.agg cs) w :=
 results_cell_row h tmps w g _ cs (0,0) _ hp hg Tryz.underlying26 rfl (by rw[show(Tryz.prog.info? 26).map (·.size)=some 4 by kernel_rfl,hs])
theorem pln4:(Tryz.prog.info? 26).map (·.size)=some 4:=by kernel_rfl
theorem ld_pln {ops : Array Oper} {rest : List Oper} {o : Oper} {a : Act} {w : World} {Q : Exit -> Act -> World -> Prop} (hgd : o.guard = none) (x : Operand) (ho : o.op = .load 26 x) (g : Nat) (hx : a.eval x = .pointer (some ⟨g, 0, none⟩))
    {sa:Option Addr} {sn sc:Nat} {ch:Bool} {ta:Option Addr} {tn tc:Nat} {na:Option Addr} {nn nc:Nat} (hg:Row w g 26 (plC sa sn sc ch ta tn tc na nn nc))
    (h:wpList Tryz.prog ops Q rest (a.put o.dst (.agg (plC sa sn sc ch ta tn tc na nn nc))) w):wpList Tryz.prog ops Q (o::rest) a w :=
 wpList_load_row hgd _ x ho g hx _ _ (0,0) _ hg Tryz.underlying26 rfl pln4 h
theorem plC_one(sa:Option Addr)(sn sc:Nat)(ch:Bool)(ta:Option Addr)(tn tc:Nat)(na:Option Addr)(nn nc:Nat):(plC sa sn sc ch ta tn tc na nn nc).all (·.oneCell')=true:=by simp[plC,Value.oneCell']
theorem st_pln {ops : Array Oper} {rest : List Oper} {o : Oper} {a : Act} {w : World} {Q : Exit -> Act -> World -> Prop} (hgd : o.guard = none) (x y : Operand) (ho : o.op = .store 26 x y) (g : Nat) (hx : a.eval x = .pointer (some ⟨g, 0, none⟩))
    (sa:Option Addr) (sn sc:Nat) (ch:Bool) (ta:Option Addr) (tn tc:Nat) (na:Option Addr) (nn nc:Nat) (hy:a.eval y=.agg (plC sa sn sc ch ta tn tc na nn nc)) {old:Array Value} (hg:Row w g 26 old) (ho2:old.size=4)
    (h:wpList Tryz.prog ops Q rest (a.put o.dst undef) (w.setRow g (plC sa sn sc ch ta tn tc na nn nc))):wpList Tryz.prog ops Q (o::rest) a w :=
 wpList_store_row hgd _ x y ho g _ hx hy _ old hg pln4 ho2 (plC_one _ _ _ _ _ _ _ _ _ _) h
def NoStr(cs:Array Value):Prop:=∀(o:Nat) (z:ByteArray),cs[o]? ≠ some (.string z)
theorem noStr_pl(sa:Option Addr)(sn sc:Nat)(ch:Bool)(ta:Option Addr)(tn tc:Nat)(na:Option Addr)(nn nc:Nat):NoStr (plC sa sn sc ch ta tn tc na nn nc):=by
 intro o z h;unfold plC at h
 rcases o with _|_|_|_|o
 all_goals first|(simp at h;done)|(cases h)
theorem QRow.apart{w:World}{a:Option Addr}{n c:Nat}{fB:Nat->Bool}{fS fT:Nat->ByteArray}{g:Nat}{t:TypeId}{cs:Array Value}(h:QRow w a n c fB fS fT)(hr:Row w g t cs)(hn:NoStr cs):n=0∨∀x,a=some x->x.block≠g:=by
 rcases Nat.eq_zero_or_pos n with h0|h0
 · exact .inl h0
 · obtain⟨b,off,rfl,_,hc⟩:=h.2.2.resolve_left (by omega);refine .inr fun x hx e => ?_
   obtain rfl:=Option.some.inj hx;have e:b=g:=e;subst e;have:=(hc 0 h0).2.1;rw[hr.cell]at this;exact hn _ _ this
theorem PlnAt.away{w w':World}{cs:Array Value}{S:Nat->Int}{r:Nat}{ch:Bool}{g:Nat->Int}{tn:Nat}{fB:Nat->Bool}{fS fT:Nat->ByteArray}{nn:Nat}(h:PlnAt w cs S r ch g tn fB fS fT nn){k:Nat}{t:TypeId}{cs0:Array Value}(hr:Row w k t cs0)(h1:NoInt cs0)(h2:NoStr cs0)(hf:Far k w w'):PlnAt w' cs S r ch g tn fB fS fT nn:=by
 obtain⟨sa,sc,ta,tc,na,nc,e,a1,a2,a3⟩:=h;exact⟨sa,sc,ta,tc,na,nc,e,a1.away (a1.apart hr h1) hf,a2.away (a2.apart hr h1) hf,a3.away (a3.apart hr h2) hf⟩
def plZer:Array Value:=plC none 0 0 false none 0 0 none 0 0
theorem ans_pln {w w3 : World} {cs : Array Value} {S : Nat -> Int} {r : Nat} {ch : Bool} {g : Nat -> Int} {tn : Nat} {fB : Nat -> Bool} {fS fT : Nat -> ByteArray} {nn : Nat} (h : PlnAt w3 cs S r ch g tn fB fS fT nn) (hb : Below w.heap.size w w3) {k : Nat} {t : TypeId} (hr0 : Row w3 k t plZer) (hk : w.heap.size <= k) :
    PlnTold S r ch g tn fB fS fT nn w (w3.setRow k cs) (.returned (.agg cs)) :=
 ⟨cs,rfl,h.away hr0 (noInt_pl _ _ _ _ _ _ _ _ _ _) (noStr_pl _ _ _ _ _ _ _ _ _ _) (Far.setRow _ _ _),below_put hb hk _⟩
theorem r6Ints_any (a : Option Addr) (n c : Nat) (g : Nat -> Int) (w : World) (h : KRow w .i64 a n c g) (hg : In64 g n) (hn : n <= 1000000) :
    Calls Tryz.prog 37 #[.slice a n c] w fun e w'=>∀T,PlnTold (fun _=>(n:Int)) 1 false T 0 (fun j=>rB (g j)) (fun j=>rS (g j)) (fun _=>str (dec 1)) n w w' e:=by
 have hl:=h.len;obtain⟨i0,hi,hz0,hz1,hz2⟩:=info_parts infoN;have FR:=Lib.hid (fun X wz hx=>r3From_any X wz hx);unfold NumTold at FR;have HG:=Lib.hid hg;have KR:=KRow.one (w.alloc (.cells plZer 26)) n 3;have BB:=Lib.hid ((((((Bag.start w).krow h).newRow plZer 26).alloc (.cells #[.int .i64 n] 3)).krow KR).newRow (plC (some ⟨w.heap.size+1,0,none⟩) 1 1 false none 0 0 none 0 0) 26);simp only[World.size_alloc]at BB;clear h hg KR;unfold plZer plC at BB;go_enter Tryz.func37,Tryz.ntmps37;go_wp2_with fail;generalize ((w.alloc (.cells #[.slice none 0 0,.bool false,.slice none 0 0,.slice none 0 0] 26)).alloc (.cells #[.int .i64 n] 3)).alloc (.cells #[.slice (some ⟨w.heap.size+1,0,none⟩) 1 1,.bool false,.slice none 0 0,.slice none 0 0] 26)=y0 at *
 go_loopw [4] (fun i wr=>∃(k:Nat) (a1:Option Addr) (c1:Nat),k<=n/\i=.int .i64 k/\Hid (Below w.heap.size w wr/\Far (w.heap.size+1+1) y0 wr/\Row wr (w.heap.size+1+1) 26 (plC (some ⟨w.heap.size+1,0,none⟩) 1 1 false none 0 0 a1 k c1)/\wr.ownsRow y0.heap.size 46 3 (.slice a1 k c1) k (qcs (fun j=>rB (g j)) (fun j=>rS (g j)) (fun _=>str (dec 1)) k))) (fun i _=>n-(intOf i).toNat)
 case atStart=>exact⟨0,none,0,by omega,rfl,BB.out.below,Far.refl _ _,BB.out.now.1,World.ownsRow_nil _ _ _ _⟩
 case round =>
  obtain⟨k,a1,c1,hk,rfl,hrel⟩:=hrel;obtain⟨hbl,hfar,hrp,hown⟩:=hrel.out;have hni:=noInt_pl (some ⟨w.heap.size+1,0,none⟩) 1 1 false none 0 0 none 0 0;have hsz:=BB.out.now.1.lt
  by_cases hlt:k<n
  · have hkr := BB.out.now.2.2.2.1.away (BB.out.now.2.2.2.1.apart BB.out.now.1 hni) hfar; obtain ⟨b, off, rfl, hb, hc⟩ := hkr.get hlt; have HX := Lib.hid (HG.out k hlt); have B1 := Lib.hid (((Bag.start wr).own hown).row hrp); have HBL := Lib.hid hbl; have HF := Lib.hid hfar; have qp : wr.cell? ⟨w.heap.size + 1 + 1, 3, none⟩ = some (.slice a1 k c1) := hrp.cell 3; have HMX := Lib.hid (show k + 1 <= maxLen by unfold maxLen; omega); have HMY := Lib.hid (show (k + 1) * 40 <= 140737488355328 by omega); have HONE := Lib.hid (show ∀ u ∈ ([.bool (rB (g k)), .string (rS (g k)), .string (str (dec 1))] : List Value), u.oneCell' = true by intro u hu; simp at hu; rcases hu with rfl | rfl | rfl <;> rfl); have hk0 : (0 : Int) <= k := by omega
    have hk1:(k:Int)<n:=by omega
    have hk2:(k:Int)<=n:=by omega
    clear hbl hfar hrp hown hkr hni;go_wp2_with fail
    go_region_law (first
     | (go_simp; go_at_call 57; (with_reducible refine (FR.out _ _ HX.out).mono ?_); rintro e w2 ⟨rfl, hb2⟩;
         have B2:=Lib.hid ((B1.out.drew.go hb2).newRow #[.bool (rB (g k)),.string (rS (g k)),.string (str (dec 1))] 46);
         have qp2:w2.cell? ⟨w.heap.size+1+1,3,none⟩=some (.slice a1 k c1):=(B1.out.drew.go hb2).now.1.cell 3;
         have qp3:(w2.alloc (.cells #[.bool (rB (g k)),.string (rS (g k)),.string (str (dec 1))] 46)).cell? ⟨w.heap.size+1+1,3,none⟩=some (.slice a1 k c1):=B2.out.now.2.1.cell 3;
         have HROW:=Lib.hid B2.out.now.2.1;
         have HOWN:=Lib.hid B2.out.now.2.2.1;
         have HNEW:=Lib.hid (World.news_of_block B2.out.now.1);
         have HBA:=Lib.hid (Nat.le_trans HF.out.size B2.out.below.size);
         have HNX:=Lib.hid (pl_step HBL.out HF.out B2.out.below HROW.out HOWN.out (by decide) (by omega) BB.out.below.size);
         clear hb2)
     | (refine step_append_lies _ rfl (.tmp 16) (.tmp 22) 24 rfl y0.heap.size 46 i0 _ 3 40 Tryz.underlying24 hi hz0 hz1 hz2 rfl (by omega) (.slice a1 k c1) k _ rfl HOWN.out ⟨w2.heap.size, 0, none⟩ 1 1 [.bool (rB (g k)), .string (rS (g k)), .string (str (dec 1))] rfl rfl HNEW.out HONE.out (by omega) HMX.out HMY.out HBA.out _ rfl ?_; intro g9 cap9 w3 hown3 hgrow hor hlt3;
         have hr3:=HROW.out.grown hgrow (HROW.out.apart HOWN.out (by decide));have qp:w3.cell? ⟨w.heap.size+1+1,3,none⟩=some (.slice a1 k c1):=hr3.cell 3;have fp:=hr3.free 3;have HN:=Lib.hid (HNX.out g9 cap9 w3 hown3 hgrow);clear hown3 hgrow hor hlt3 hr3))
    all_goals
     go_wp2
     go_roundw
     case rel=>exact⟨k+1,_,cap9,by omega,by go_num,HN.out⟩
     case measure=>simp[intOf];omega
  · obtain rfl:k=n:=by omega
    have hr0:Row wr w.heap.size 26 plZer:=(hfar.block _ (by omega) BB.out.now.2.2.1.lt).trans BB.out.now.2.2.1;have hks:=BB.out.now.2.1.away (BB.out.now.2.1.apart BB.out.now.1 hni) hfar;obtain⟨a9,c9,he,hq⟩:=QRow.of_own hown
    injection he with he1 _ he2
    subst he1 he2
    have HE:Hid (∀T,PlnTold (fun _=>(k:Int)) 1 false T 0 (fun j=>rB (g j)) (fun j=>rS (g j)) (fun _=>str (dec 1)) k w (wr.setRow w.heap.size (plC (some ⟨w.heap.size+1,0,none⟩) 1 1 false none 0 0 a1 k c1)) (.returned (.agg (plC (some ⟨w.heap.size+1,0,none⟩) 1 1 false none 0 0 a1 k c1)))) :=
     Lib.hid fun T=>ans_pln ⟨_,_,_,_,_,_,rfl,hks,KRow.nought _ _ _ _ (Nat.zero_le _) _,hq⟩ hbl hr0 (Nat.le_refl _)
    have HR0:=Lib.hid hr0;have HRP:=Lib.hid hrp;clear hbl hfar hrp hown hks hq hr0 hni
    go_wp2_with (first
     | (refine ld_pln rfl (.tmp 3) rfl (w.heap.size+1+1) rfl HRP.out ?_)
     | (refine st_pln rfl (.tmp 2) (.tmp 25) rfl w.heap.size rfl _ _ _ _ _ _ _ _ _ _ rfl HR0.out rfl ?_))
    exact bodyPost_ret (res_pln Tryz.results37 rfl (HR0.out.put _) rfl) rfl HE.out
end Go.Proofs.YtdmmenaejkpnjaaGreatDoor
namespace Go.Proofs.YtdmmenaejkpnjaaGreatDoor
open Go.RowKit
attribute [local go_sem ↓] Go.wp_at_zero Go.wp_at_succ
theorem ofO_all(b:Bool)(s t:ByteArray):ofO b s t=(okB s.data.toList&&(okB t.data.toList&&(decide (str (dec (numOf s.data.toList))=s)&&(decide (str (dec (numOf t.data.toList))=t)&&(!decide (numOf t.data.toList=0)&&(decide (Nat.gcd (numOf s.data.toList) (numOf t.data.toList)=1) && !(b&&decide (numOf s.data.toList=0)))))))):=by
 unfold ofO ofK ofP ofQ
 by_cases h0:numOf t.data.toList=0
 · rw[decide_eq_true h0];simp
 · rw[of_right b s t (by omega),decide_eq_false h0]
   cases okB s.data.toList<;>cases okB t.data.toList<;>simp
theorem str_beq(s t:ByteArray):(s.toList==t.toList)=decide (s=t):=by
 rw[Bool.eq_iff_iff,beq_iff_eq,decide_eq_true_eq]
 constructor
 · intro h;rw[ByteArray.toList_eq,ByteArray.toList_eq]at h;exact ByteArray.ext (Array.toList_inj.1 h)
 · intro h;rw[h]
theorem r3Right_any (b : Bool) (s t : ByteArray) (w : World) (hs : s.size <= 60) (ht : t.size <= 60) :
    Calls Tryz.prog 54 #[.agg #[.bool b,.string s,.string t]] w fun e w'=>e=.returned (.bool (ofO b s t))/\Below w.heap.size w w':=by
 rw[ofO_all];have BB:=Lib.hid ((Bag.start w).box3 (.bool b) (.string s) (.string t) 46);have R1:=Lib.hid (fun wz=>right_any s wz (by unfold maxLen;omega));have R2:=Lib.hid (fun wz=>right_any t wz (by unfold maxLen;omega))
 have TR:∀(u:ByteArray) (hu:u.size<=60) (h:okB u.data.toList=true) wz,Calls Tryz.prog 111 #[.string u] wz fun e w'=>e=.returned (.string (str (dec (numOf u.data.toList))))/\wz=w':=by
  intro u hu h wz;obtain⟨g1,g2,g3⟩:=okB_digs h;have hl:u.data.toList.length=u.size:=rfl;have:=trim_any (numOf u.data.toList) u.data.toList.length wz g1 (numOf_lt _ g3) (by omega);rw[sdig_numOf _ g3]at this;exact this
 have T1:=Lib.hid (fun wz h=>TR s hs h wz);have T2:=Lib.hid (fun wz h=>TR t ht h wz)
 have hl1:dl (numOf s.data.toList)<=900∨okB s.data.toList=false:=by
  cases h:okB s.data.toList with
  | false=>exact .inr rfl
  | true =>
   obtain⟨g1,g2,g3⟩:=okB_digs h;exact .inl (Nat.le_trans (dl_le _ _ g1 (numOf_lt _ g3)) (by have:s.data.toList.length=s.size:=rfl;omega))
 obtain⟨E,hE⟩:∃E,E=1000:=⟨_,rfl⟩
 have hl2:(dl (numOf t.data.toList)<=900/\numOf t.data.toList<2^E)∨okB t.data.toList=false:=by
  cases h:okB t.data.toList with
  | false=>exact .inr rfl
  | true =>
   obtain⟨g1,g2,g3⟩:=okB_digs h;have hl:t.data.toList.length=t.size:=rfl;refine .inl ⟨Nat.le_trans (dl_le _ _ g1 (numOf_lt _ g3)) (by omega),Nat.lt_of_lt_of_le (numOf_lt _ g3) (Nat.le_trans (Nat.pow_le_pow_right (by omega) (show t.data.toList.length<=60 by omega)) ?_)⟩;exact Nat.le_trans (Nat.pow_le_pow_left (show 10<=2^4 by decide) 60) (by rw[← Nat.pow_mul];exact Nat.pow_le_pow_right (by omega) (by omega))
 generalize hN:numOf s.data.toList=N at *;generalize hM:numOf t.data.toList=M at *
 have GC:∀wz,okB s.data.toList=true->okB t.data.toList=true->str (dec N)=s->str (dec M)=t->Calls Tryz.prog 112 #[.string s,.string t] wz fun e w'=>e=.returned (.string (str (dec (Nat.gcd N M))))/\Below wz.heap.size wz w':=by
  intro wz h1 h2 h3 h4;have:=rgcd_any N M wz (by rcases hl1 with h|h;exact h;rw[h1]at h;cases h) (by rcases hl2 with h|h;exact h.1;rw[h2]at h;cases h) E (by omega) (by rcases hl2 with h|h;exact h.2;rw[h2]at h;cases h);rw[h3,h4]at this;exact this
 have hz1:decide (M=0)=((str (dec M)).toList == [48]):=(dec_isnt0 M).symm;have hz0:decide (N=0)=((str (dec N)).toList == [48]):=(dec_isnt0 N).symm;have hg1:decide (Nat.gcd N M=1)=((str (dec (Nat.gcd N M))).toList == [49]):=(dec_is1 _).symm;generalize okB s.data.toList=r1 at *;generalize okB t.data.toList=r2 at *;have d1:=str_beq (str (dec N)) s;have d2:=str_beq (str (dec M)) t;rw[← d1,← d2,hz1,hz0,hg1];have GC:=Lib.hid GC;generalize str (dec (Nat.gcd N M))=gg at *;generalize str (dec N)=s1 at *;generalize str (dec M)=t1 at *;have D1:Hid ((s1.toList==s.toList)=true->s1=s):=fun h=>of_decide_eq_true (d1.symm.trans h)
 have D2:Hid ((t1.toList==t.toList)=true->t1=t):=fun h=>of_decide_eq_true (d2.symm.trans h)
 clear TR hl1 hl2 hN hM hs ht hz1 hz0 hg1 d1 d2;obtain⟨e1,he1⟩:∃e,(s1.toList==s.toList)=e:=⟨_,rfl⟩
 obtain⟨e2,he2⟩:∃e,(t1.toList==t.toList)=e:=⟨_,rfl⟩
 obtain⟨z,hz⟩:∃e,(t.toList == [48])=e:=⟨_,rfl⟩
 obtain⟨x13,h13⟩:∃x,x=(!r1 || !r2):=⟨_,rfl⟩
 obtain⟨x21,h21⟩:∃x,x=(x13 || !e1):=⟨_,rfl⟩
 obtain⟨x29,h29⟩:∃x,x=(x21 || !e2):=⟨_,rfl⟩
 obtain⟨x33,h33⟩:∃x,x=(x29||z):=⟨_,rfl⟩
 have OR:∀x y z:Bool,z=(x||y)->((x=true->z=true)/\(x=false->z=y)):=by intro x y z h;subst h;cases x<;>simp
 have P1:Hid ((!r1)=true->x13=true):=(OR _ _ _ h13).1;have Q1:Hid ((!r1)=false->x13 = !r2):=(OR _ _ _ h13).2;have P2:Hid (x13=true->x21=true):=(OR _ _ _ h21).1;have Q2:Hid (x13=false->x21 = !e1):=(OR _ _ _ h21).2;have P3:Hid (x21=true->x29=true):=(OR _ _ _ h29).1;have Q3:Hid (x21=false->x29 = !e2):=(OR _ _ _ h29).2;have P4:Hid (x29=true->x33=true):=(OR _ _ _ h33).1;have Q4:Hid (x29=false->x33=z):=(OR _ _ _ h33).2;have N1:Hid (x13=false->r1=true):=by intro h;rw[h]at h13;cases r1;cases h13;rfl
 have N2:Hid (x21=false->r2=true):=by intro h;rw[h]at h21;cases hx:x13;rw[hx]at h13;cases r2;cases r1<;>cases h13;rfl;rw[hx]at h21;cases h21
 have LAST0:(x33=true->∀G,(r1&&(r2&&(e1&&(e2&&(!(t1.toList == [48])&&G)))))=false)/\(x33=false->r1=true/\r2=true/\e1=true/\e2=true/\z=false):=by
  rw[h33,h29,h21,h13]
  refine⟨fun h G => ?_,fun h => ?_⟩
  · cases hh:e2 with
    | false=>simp
    | true =>
     have h4:=D2.out (he2.trans hh);rw[h4,hz];rw[hh]at h
     cases r1<;>cases r2<;>cases e1<;>cases z<;>first|rfl|cases h
  · cases r1<;>cases r2<;>cases e1<;>cases e2<;>cases z<;>first|exact⟨rfl,rfl,rfl,rfl,rfl⟩|cases h
 have LAST:=Lib.hid LAST0;rw[he1,he2];clear LAST0 hE OR h13 h21 h29 h33;go_enter Tryz.func54,Tryz.ntmps54;go_wp2_with fail
 refine wp_region_inv ⟨(fun j=>([[3], [4], [5], [6], [7], [8], [9], [10], [11], [12], [13], [14], [15], [16], [17], [18], [19], [20], [21], [22], [23], [24], [25], [26], [27], [28], [29], [30], [31], [32], [33]]:List (List Nat)).getD j []),(fun j=>([[], [0], [0,1], [0,1,2], [0,1,2,3], [0,1,2,3,4], [0,1,2,3,4,5], [0,1,2,3,4,5,6], [0,1,2,3,4,5,6,7], [0,1,2,3,4,5,6,7,8], [0,1,2,3,4,5,6,7,8,9], [0,1,2,3,4,5,6,7,8,9,10], [0,1,2,3,4,5,6,7,8,9,10,11], [0,1,2,3,4,5,6,7,8,9,10,11,12], [0,1,2,3,4,5,6,7,8,9,10], [0,1,2,3,4,5,6,7,8,9,10,14], [0,1,2,3,4,5,6,7,8,9,10,11,12,13,14,15], [0,1,2,3,4,5,6,7,8,9,10,11,12,13,14,15,16], [0,1,2,3,4,5,6,7,8,9,10,11,12,13,14,15,16,17], [0,1,2,3,4,5,6,7,8,9,10,11,12,13,14,15,16,17,18], [0,1,2,3,4,5,6,7,8,9,10,11,12,13,14,15,16,17,18,19], [0,1,2,3,4,5,6,7,8,9,10,11,12,13,14,15,16,17,18,19,20], [0,1,2,3,4,5,6,7,8,9,10,11,12,13,14,15,16,17,18], [0,1,2,3,4,5,6,7,8,9,10,11,12,13,14,15,16,17,18,22], [0,1,2,3,4,5,6,7,8,9,10,11,12,13,14,15,16,17,18,19,20,21,22,23], [0,1,2,3,4,5,6,7,8,9,10,11,12,13,14,15,16,17,18,19,20,21,22,23,24], [0,1,2,3,4,5,6,7,8,9,10,11,12,13,14,15,16,17,18,19,20,21,22,23,24,25], [0,1,2,3,4,5,6,7,8,9,10,11,12,13,14,15,16,17,18,19,20,21,22,23,24,25,26], [0,1,2,3,4,5,6,7,8,9,10,11,12,13,14,15,16,17,18,19,20,21,22,23,24,25,26,27], [0,1,2,3,4,5,6,7,8,9,10,11,12,13,14,15,16,17,18,19,20,21,22,23,24,25,26,27,28], [0,1,2,3,4,5,6,7,8,9,10,11,12,13,14,15,16,17,18,19,20,21,22,23,24,25,26,27,28,29]]:List (List Nat)).getD j []), []⟩ (fun jj vv yy=>match jj with|0=>vv = [some (.pointer (some ⟨w.heap.size,1,none⟩))]|1=>vv = [some (.string s)]|2=>vv = [some (.bool r1)]|3=>vv = [some (.bool (!r1))]|4=>vv = [some (.bool (!r1))]|5=>((!r1)=false)->(vv = [some (.pointer (some ⟨w.heap.size,2,none⟩))])|6=>((!r1)=false)->(vv = [some (.string t)])|7=>((!r1)=false)->(vv = [some (.bool r2)])|8=>((!r1)=false)->(vv = [some (.bool (!r2))])|9=>vv = [some (.bool x13)]|10=>vv = [some (.bool x13)]|11=>(x13=false)->(vv = [some (.pointer (some ⟨w.heap.size,1,none⟩))])|12=>(x13=false)->(vv = [some (.string s)])|13=>(x13=false)->(vv = [some (.string s1)])|14=>(x13=false)->(vv = [some (.pointer (some ⟨w.heap.size,1,none⟩))])|15=>(x13=false)->(vv = [some (.string s)])|16=>(x13=false)->(vv = [some (.bool (!e1))])|17=>vv = [some (.bool x21)]|18=>vv = [some (.bool x21)]|19=>(x21=false)->(vv = [some (.pointer (some ⟨w.heap.size,2,none⟩))])|20=>(x21=false)->(vv = [some (.string t)])|21=>(x21=false)->(vv = [some (.string t1)])|22=>(x21=false)->(vv = [some (.pointer (some ⟨w.heap.size,2,none⟩))])|23=>(x21=false)->(vv = [some (.string t)])|24=>(x21=false)->(vv = [some (.bool (!e2))])|25=>vv = [some (.bool x29)]|26=>vv = [some (.bool x29)]|27=>(x29=false)->(vv = [some (.pointer (some ⟨w.heap.size,2,none⟩))])|28=>(x29=false)->(vv = [some (.string t)])|29=>(x29=false)->(vv = [some (.bool z)])|30=>vv = [some (.bool x33)]|_=>True) (Bag w (fun y=>Slot3 y w.heap.size (.bool b) (.string s) (.string t)/\True)) (by kernel_rfl) (by kernel_rfl) (by kernel_rfl) BB.out.drew ?_ ?_ ?_
 · intro jj vv yw yw2 hb h
   match jj,h with
   | 0,h=>exact h
   | 1,h=>exact h
   | 2,h=>exact h
   | 3,h=>exact h
   | 4,h=>exact h
   | 5,h=>exact h
   | 6,h=>exact h
   | 7,h=>exact h
   | 8,h=>exact h
   | 9,h=>exact h
   | 10,h=>exact h
   | 11,h=>exact h
   | 12,h=>exact h
   | 13,h=>exact h
   | 14,h=>exact h
   | 15,h=>exact h
   | 16,h=>exact h
   | 17,h=>exact h
   | 18,h=>exact h
   | 19,h=>exact h
   | 20,h=>exact h
   | 21,h=>exact h
   | 22,h=>exact h
   | 23,h=>exact h
   | 24,h=>exact h
   | 25,h=>exact h
   | 26,h=>exact h
   | 27,h=>exact h
   | 28,h=>exact h
   | 29,h=>exact h
   | 30,h=>exact h
   | _+31,h=>exact h
 · intro ac yw hsz hdf hold hB hp;have t33:ac.tmps[33]? = some (.bool x33):=(List.cons.inj (hp 30 (by decide))).1;have t1':ac.tmps[1]? = some (.pointer (some ⟨w.heap.size,0,none⟩)):=hold 1 (by kernel_rfl);clear hold hp;have⟨q0,q1,q2⟩:=hB.now.1.c3;obtain⟨F,hF⟩:∃F:Nat->Value,∀i,(ac.tmps[i]?).getD undef=F i:=⟨_,fun _=>rfl⟩
   have f33:=(hF 33).symm.trans (congrArg (fun x=>Option.getD x undef) t33);have f1:=(hF 1).symm.trans (congrArg (fun x=>Option.getD x undef) t1');have hac:=act_eq (n:=50) hsz F hF;rw[show((List.range 50).map F).toArray=#[F 0,F 1,F 2,F 3,F 4,F 5,F 6,F 7,F 8,F 9,F 10,F 11,F 12,F 13,F 14,F 15,F 16,F 17,F 18,F 19,F 20,F 21,F 22,F 23,F 24,F 25,F 26,F 27,F 28,F 29,F 30,F 31,F 32,F 33,F 34,F 35,F 36,F 37,F 38,F 39,F 40,F 41,F 42,F 43,F 44,F 45,F 46,F 47,F 48,F 49]from rfl,f33,f1,hdf]at hac;simp only[Option.getD_some]at hac;subst hac;clear hF f33 f1;obtain⟨L1,L2⟩:=LAST.out;have BB:=Lib.hid hB;clear LAST P1 Q1 P2 Q2 P3 Q3 P4 Q4 N1 N2 R1 R2 T1 T2 hB
   cases x33 with
   | true =>
    have L3:=Lib.hid (L1 rfl);clear L1 L2 GC he1 he2 hz D1 D2;go_wp2;go_ret;exact⟨congrArg (fun b=>Ending.returned (.bool b)) (L3.out _).symm,BB.out.below⟩
   | false =>
    obtain⟨rfl,rfl,rfl,rfl,rfl⟩:=L2 rfl;obtain rfl:=D1.out he1;obtain rfl:=D2.out he2;have GC2:=Lib.hid (fun wz=>GC.out wz rfl rfl rfl rfl);clear GC;obtain⟨g,hg⟩:∃g,(gg.toList == [49])=g:=⟨_,rfl⟩
    obtain⟨z0,hz0⟩:∃g,(s1.toList == [48])=g:=⟨_,rfl⟩
    have HZ:=Lib.hid (And.intro hz (And.intro hg hz0));clear L1 L2 he1 he2 D1 D2
    cases g<;>cases b<;>cases z0
    all_goals
     go_wp2_with fail;go_at_call 112;(with_reducible refine(GC2.out _).mono ?_);rintro e w2 ⟨rfl,hb2⟩;have BB:=bgo BB hb2;have⟨q0,q1,q2⟩:=BB.out.now.1.c3;go_wp2;go_ret;exact⟨congrArg (fun b=>Ending.returned (.bool b)) (by rw[HZ.out.1,HZ.out.2.1,HZ.out.2.2];rfl),BB.out.below⟩
 refine Stps.cons (o:=_) ?_ ?_
 · intro ac yw hsz hold hB hp K hK;have t1:ac.tmps[1]? = some (.pointer (some ⟨w.heap.size,0,none⟩)):=hold 1 (by kernel_rfl);clear hold hp hsz;go_simp;exact hK.out _ _ ⟨hB,rfl,Nat.le_refl _,.inl (Below.refl _ _),fun h=>absurd h (by decide)⟩
 refine Stps.cons (o:=_) ?_ ?_
 · intro ac yw hsz hold hB hp K hK;have e0:=hp 0 (by decide);have t3:ac.tmps[3]? = some (.pointer (some ⟨w.heap.size,1,none⟩)):=(List.cons.inj e0).1;clear hold hp hsz e0;have⟨q0,q1,q2⟩:=hB.now.1.c3;go_simp;exact hK.out _ _ ⟨hB,rfl,Nat.le_refl _,.inl (Below.refl _ _),fun h=>absurd h (by decide)⟩
 refine Stps.cons (o:=_) ?_ ?_
 · intro ac yw hsz hold hB hp K hK;have e1:=hp 1 (by decide);have t4:ac.tmps[4]? = some (.string s):=(List.cons.inj e1).1;clear hold hp hsz e1;go_simp
   (go_at_call 110;(with_reducible refine(R1.out _).mono ?_);rintro e wz ⟨rfl,rfl⟩;have hbz:=Below.refl yw.heap.size yw)
   exact hK.out _ _ ⟨hB.go hbz,rfl,hbz.size,.inl hbz,fun h=>absurd h (by decide)⟩
 refine Stps.cons (o:=_) ?_ ?_
 · intro ac yw hsz hold hB hp K hK;have e2:=hp 2 (by decide);have t5:ac.tmps[5]? = some (.bool r1):=(List.cons.inj e2).1;clear hold hp hsz e2;go_simp;exact hK.out _ _ ⟨hB,rfl,Nat.le_refl _,.inl (Below.refl _ _),fun h=>absurd h (by decide)⟩
 refine Stps.cons (o:=_) ?_ ?_
 · intro ac yw hsz hold hB hp K hK;have e3:=hp 3 (by decide);have t6:ac.tmps[6]? = some (.bool (!r1)):=(List.cons.inj e3).1;clear hold hp hsz e3;go_simp;exact hK.out _ _ ⟨hB,rfl,Nat.le_refl _,.inl (Below.refl _ _),fun h=>absurd h (by decide)⟩
 refine Stps.cons (o:=_) ?_ ?_
 · intro ac yw hsz hold hB hp K hK;have t7:ac.tmps[7]? = some (.bool (!r1)):=(List.cons.inj (hp 4 (by decide))).1
   by_cases hc:((!r1))=false
   · rw[hc]at t7;rw[if_pos (wanted_pos rfl rfl t7)];have t1:ac.tmps[1]? = some (.pointer (some ⟨w.heap.size,0,none⟩)):=hold 1 (by kernel_rfl);clear hold hp hsz;go_simp;exact hK.out _ _ ⟨hB,fun _=>rfl,Nat.le_refl _,.inl (Below.refl _ _),fun h=>absurd h (by decide)⟩
   · rw[if_neg (by rw[wanted_neg rfl rfl t7 (fun e=>hc (by injection e))];decide)];exact hK.out _ _ ⟨hB,fun h=>absurd h hc,Nat.le_refl _,.inl (Below.refl _ _),fun h=>absurd h (by decide)⟩
 refine Stps.cons (o:=_) ?_ ?_
 · intro ac yw hsz hold hB hp K hK;have t7:ac.tmps[7]? = some (.bool (!r1)):=(List.cons.inj (hp 4 (by decide))).1
   by_cases hc:((!r1))=false
   · rw[hc]at t7;rw[if_pos (wanted_pos rfl rfl t7)];have e5:=hp 5 (by decide) hc;have t8:ac.tmps[8]? = some (.pointer (some ⟨w.heap.size,2,none⟩)):=(List.cons.inj e5).1;clear hold hp hsz e5;have⟨q0,q1,q2⟩:=hB.now.1.c3;go_simp;exact hK.out _ _ ⟨hB,fun _=>rfl,Nat.le_refl _,.inl (Below.refl _ _),fun h=>absurd h (by decide)⟩
   · rw[if_neg (by rw[wanted_neg rfl rfl t7 (fun e=>hc (by injection e))];decide)];exact hK.out _ _ ⟨hB,fun h=>absurd h hc,Nat.le_refl _,.inl (Below.refl _ _),fun h=>absurd h (by decide)⟩
 refine Stps.cons (o:=_) ?_ ?_
 · intro ac yw hsz hold hB hp K hK;have t7:ac.tmps[7]? = some (.bool (!r1)):=(List.cons.inj (hp 4 (by decide))).1
   by_cases hc:((!r1))=false
   · rw[hc]at t7;rw[if_pos (wanted_pos rfl rfl t7)];have e6:=hp 6 (by decide) hc;have t9:ac.tmps[9]? = some (.string t):=(List.cons.inj e6).1;clear hold hp hsz e6;go_simp
     (go_at_call 110;(with_reducible refine(R2.out _).mono ?_);rintro e wz ⟨rfl,rfl⟩;have hbz:=Below.refl yw.heap.size yw)
     exact hK.out _ _ ⟨hB.go hbz,fun _=>rfl,hbz.size,.inl hbz,fun h=>absurd h (by decide)⟩
   · rw[if_neg (by rw[wanted_neg rfl rfl t7 (fun e=>hc (by injection e))];decide)];exact hK.out _ _ ⟨hB,fun h=>absurd h hc,Nat.le_refl _,.inl (Below.refl _ _),fun h=>absurd h (by decide)⟩
 refine Stps.cons (o:=_) ?_ ?_
 · intro ac yw hsz hold hB hp K hK;have t7:ac.tmps[7]? = some (.bool (!r1)):=(List.cons.inj (hp 4 (by decide))).1
   by_cases hc:((!r1))=false
   · rw[hc]at t7;rw[if_pos (wanted_pos rfl rfl t7)];have e7:=hp 7 (by decide) hc;have t10:ac.tmps[10]? = some (.bool r2):=(List.cons.inj e7).1;clear hold hp hsz e7;go_simp;exact hK.out _ _ ⟨hB,fun _=>rfl,Nat.le_refl _,.inl (Below.refl _ _),fun h=>absurd h (by decide)⟩
   · rw[if_neg (by rw[wanted_neg rfl rfl t7 (fun e=>hc (by injection e))];decide)];exact hK.out _ _ ⟨hB,fun h=>absurd h hc,Nat.le_refl _,.inl (Below.refl _ _),fun h=>absurd h (by decide)⟩
 refine Stps.cons (o:=_) ?_ ?_
 · intro ac yw hsz hold hB hp K hK;have t7:ac.tmps[7]? = some (.bool (!r1)):=(List.cons.inj (hp 4 (by decide))).1
   by_cases hc:((!r1))=true
   · rw[hc]at t7;clear hold hp hsz;go_simp;exact hK.out _ _ ⟨hB,congrArg (fun b => [some (Value.bool b)]) (P1.out hc).symm,Nat.le_refl _,.inl (Below.refl _ _),fun h=>absurd h (by decide)⟩
   · have hc:((!r1))=false:=by simpa using hc
     rw[hc]at t7;have t11:ac.tmps[11]? = some (.bool (!r2)):=(List.cons.inj (hp 8 (by decide) hc)).1;clear hold hp hsz;go_simp;exact hK.out _ _ ⟨hB,congrArg (fun b => [some (Value.bool b)]) (Q1.out hc).symm,Nat.le_refl _,.inl (Below.refl _ _),fun h=>absurd h (by decide)⟩
 refine Stps.cons (o:=_) ?_ ?_
 · intro ac yw hsz hold hB hp K hK;have e9:=hp 9 (by decide);have t12:ac.tmps[12]? = some (.bool x13):=(List.cons.inj e9).1;clear hold hp hsz e9;go_simp;exact hK.out _ _ ⟨hB,rfl,Nat.le_refl _,.inl (Below.refl _ _),fun h=>absurd h (by decide)⟩
 refine Stps.cons (o:=_) ?_ ?_
 · intro ac yw hsz hold hB hp K hK;have t13:ac.tmps[13]? = some (.bool x13):=(List.cons.inj (hp 10 (by decide))).1
   by_cases hc:(x13)=false
   · rw[hc]at t13;rw[if_pos (wanted_pos rfl rfl t13)];have t1:ac.tmps[1]? = some (.pointer (some ⟨w.heap.size,0,none⟩)):=hold 1 (by kernel_rfl);clear hold hp hsz;go_simp;exact hK.out _ _ ⟨hB,fun _=>rfl,Nat.le_refl _,.inl (Below.refl _ _),fun h=>absurd h (by decide)⟩
   · rw[if_neg (by rw[wanted_neg rfl rfl t13 (fun e=>hc (by injection e))];decide)];exact hK.out _ _ ⟨hB,fun h=>absurd h hc,Nat.le_refl _,.inl (Below.refl _ _),fun h=>absurd h (by decide)⟩
 refine Stps.cons (o:=_) ?_ ?_
 · intro ac yw hsz hold hB hp K hK;have t13:ac.tmps[13]? = some (.bool x13):=(List.cons.inj (hp 10 (by decide))).1
   by_cases hc:(x13)=false
   · rw[hc]at t13;rw[if_pos (wanted_pos rfl rfl t13)];have e11:=hp 11 (by decide) hc;have t14:ac.tmps[14]? = some (.pointer (some ⟨w.heap.size,1,none⟩)):=(List.cons.inj e11).1;clear hold hp hsz e11;have⟨q0,q1,q2⟩:=hB.now.1.c3;go_simp;exact hK.out _ _ ⟨hB,fun _=>rfl,Nat.le_refl _,.inl (Below.refl _ _),fun h=>absurd h (by decide)⟩
   · rw[if_neg (by rw[wanted_neg rfl rfl t13 (fun e=>hc (by injection e))];decide)];exact hK.out _ _ ⟨hB,fun h=>absurd h hc,Nat.le_refl _,.inl (Below.refl _ _),fun h=>absurd h (by decide)⟩
 refine Stps.cons (o:=_) ?_ ?_
 · intro ac yw hsz hold hB hp K hK;have t13:ac.tmps[13]? = some (.bool x13):=(List.cons.inj (hp 10 (by decide))).1
   by_cases hc:(x13)=false
   · rw[hc]at t13;rw[if_pos (wanted_pos rfl rfl t13)];have e12:=hp 12 (by decide) hc;have t15:ac.tmps[15]? = some (.string s):=(List.cons.inj e12).1;clear hold hp hsz e12;go_simp
     (go_at_call 111;(with_reducible refine(T1.out _ (N1.out hc)).mono ?_);rintro e wz ⟨rfl,rfl⟩;have hbz:=Below.refl yw.heap.size yw)
     exact hK.out _ _ ⟨hB.go hbz,fun _=>rfl,hbz.size,.inl hbz,fun h=>absurd h (by decide)⟩
   · rw[if_neg (by rw[wanted_neg rfl rfl t13 (fun e=>hc (by injection e))];decide)];exact hK.out _ _ ⟨hB,fun h=>absurd h hc,Nat.le_refl _,.inl (Below.refl _ _),fun h=>absurd h (by decide)⟩
 refine Stps.cons (o:=_) ?_ ?_
 · intro ac yw hsz hold hB hp K hK;have t13:ac.tmps[13]? = some (.bool x13):=(List.cons.inj (hp 10 (by decide))).1
   by_cases hc:(x13)=false
   · rw[hc]at t13;rw[if_pos (wanted_pos rfl rfl t13)];have t1:ac.tmps[1]? = some (.pointer (some ⟨w.heap.size,0,none⟩)):=hold 1 (by kernel_rfl);clear hold hp hsz;go_simp;exact hK.out _ _ ⟨hB,fun _=>rfl,Nat.le_refl _,.inl (Below.refl _ _),fun h=>absurd h (by decide)⟩
   · rw[if_neg (by rw[wanted_neg rfl rfl t13 (fun e=>hc (by injection e))];decide)];exact hK.out _ _ ⟨hB,fun h=>absurd h hc,Nat.le_refl _,.inl (Below.refl _ _),fun h=>absurd h (by decide)⟩
 refine Stps.cons (o:=_) ?_ ?_
 · intro ac yw hsz hold hB hp K hK;have t13:ac.tmps[13]? = some (.bool x13):=(List.cons.inj (hp 10 (by decide))).1
   by_cases hc:(x13)=false
   · rw[hc]at t13;rw[if_pos (wanted_pos rfl rfl t13)];have e14:=hp 14 (by decide) hc;have t17:ac.tmps[17]? = some (.pointer (some ⟨w.heap.size,1,none⟩)):=(List.cons.inj e14).1;clear hold hp hsz e14;have⟨q0,q1,q2⟩:=hB.now.1.c3;go_simp;exact hK.out _ _ ⟨hB,fun _=>rfl,Nat.le_refl _,.inl (Below.refl _ _),fun h=>absurd h (by decide)⟩
   · rw[if_neg (by rw[wanted_neg rfl rfl t13 (fun e=>hc (by injection e))];decide)];exact hK.out _ _ ⟨hB,fun h=>absurd h hc,Nat.le_refl _,.inl (Below.refl _ _),fun h=>absurd h (by decide)⟩
 refine Stps.cons (o:=_) ?_ ?_
 · intro ac yw hsz hold hB hp K hK;have t13:ac.tmps[13]? = some (.bool x13):=(List.cons.inj (hp 10 (by decide))).1
   by_cases hc:(x13)=false
   · rw[hc]at t13;rw[if_pos (wanted_pos rfl rfl t13)];have e13:=hp 13 (by decide) hc;have t16:ac.tmps[16]? = some (.string s1):=(List.cons.inj e13).1;have e15:=hp 15 (by decide) hc;have t18:ac.tmps[18]? = some (.string s):=(List.cons.inj e15).1;clear hold hp hsz e13 e15;go_simp;exact hK.out _ _ ⟨hB,fun _=>rfl,Nat.le_refl _,.inl (Below.refl _ _),fun h=>absurd h (by decide)⟩
   · rw[if_neg (by rw[wanted_neg rfl rfl t13 (fun e=>hc (by injection e))];decide)];exact hK.out _ _ ⟨hB,fun h=>absurd h hc,Nat.le_refl _,.inl (Below.refl _ _),fun h=>absurd h (by decide)⟩
 refine Stps.cons (o:=_) ?_ ?_
 · intro ac yw hsz hold hB hp K hK;have t13:ac.tmps[13]? = some (.bool x13):=(List.cons.inj (hp 10 (by decide))).1
   by_cases hc:(x13)=true
   · rw[hc]at t13;clear hold hp hsz;go_simp;exact hK.out _ _ ⟨hB,congrArg (fun b => [some (Value.bool b)]) (P2.out hc).symm,Nat.le_refl _,.inl (Below.refl _ _),fun h=>absurd h (by decide)⟩
   · have hc:(x13)=false:=by simpa using hc
     rw[hc]at t13;have t19:ac.tmps[19]? = some (.bool (!e1)):=(List.cons.inj (hp 16 (by decide) hc)).1;clear hold hp hsz;go_simp;exact hK.out _ _ ⟨hB,congrArg (fun b => [some (Value.bool b)]) (Q2.out hc).symm,Nat.le_refl _,.inl (Below.refl _ _),fun h=>absurd h (by decide)⟩
 refine Stps.cons (o:=_) ?_ ?_
 · intro ac yw hsz hold hB hp K hK;have e17:=hp 17 (by decide);have t20:ac.tmps[20]? = some (.bool x21):=(List.cons.inj e17).1;clear hold hp hsz e17;go_simp;exact hK.out _ _ ⟨hB,rfl,Nat.le_refl _,.inl (Below.refl _ _),fun h=>absurd h (by decide)⟩
 refine Stps.cons (o:=_) ?_ ?_
 · intro ac yw hsz hold hB hp K hK;have t21:ac.tmps[21]? = some (.bool x21):=(List.cons.inj (hp 18 (by decide))).1
   by_cases hc:(x21)=false
   · rw[hc]at t21;rw[if_pos (wanted_pos rfl rfl t21)];have t1:ac.tmps[1]? = some (.pointer (some ⟨w.heap.size,0,none⟩)):=hold 1 (by kernel_rfl);clear hold hp hsz;go_simp;exact hK.out _ _ ⟨hB,fun _=>rfl,Nat.le_refl _,.inl (Below.refl _ _),fun h=>absurd h (by decide)⟩
   · rw[if_neg (by rw[wanted_neg rfl rfl t21 (fun e=>hc (by injection e))];decide)];exact hK.out _ _ ⟨hB,fun h=>absurd h hc,Nat.le_refl _,.inl (Below.refl _ _),fun h=>absurd h (by decide)⟩
 refine Stps.cons (o:=_) ?_ ?_
 · intro ac yw hsz hold hB hp K hK;have t21:ac.tmps[21]? = some (.bool x21):=(List.cons.inj (hp 18 (by decide))).1
   by_cases hc:(x21)=false
   · rw[hc]at t21;rw[if_pos (wanted_pos rfl rfl t21)];have e19:=hp 19 (by decide) hc;have t22:ac.tmps[22]? = some (.pointer (some ⟨w.heap.size,2,none⟩)):=(List.cons.inj e19).1;clear hold hp hsz e19;have⟨q0,q1,q2⟩:=hB.now.1.c3;go_simp;exact hK.out _ _ ⟨hB,fun _=>rfl,Nat.le_refl _,.inl (Below.refl _ _),fun h=>absurd h (by decide)⟩
   · rw[if_neg (by rw[wanted_neg rfl rfl t21 (fun e=>hc (by injection e))];decide)];exact hK.out _ _ ⟨hB,fun h=>absurd h hc,Nat.le_refl _,.inl (Below.refl _ _),fun h=>absurd h (by decide)⟩
 refine Stps.cons (o:=_) ?_ ?_
 · intro ac yw hsz hold hB hp K hK;have t21:ac.tmps[21]? = some (.bool x21):=(List.cons.inj (hp 18 (by decide))).1
   by_cases hc:(x21)=false
   · rw[hc]at t21;rw[if_pos (wanted_pos rfl rfl t21)];have e20:=hp 20 (by decide) hc;have t23:ac.tmps[23]? = some (.string t):=(List.cons.inj e20).1;clear hold hp hsz e20;go_simp
     (go_at_call 111;(with_reducible refine(T2.out _ (N2.out hc)).mono ?_);rintro e wz ⟨rfl,rfl⟩;have hbz:=Below.refl yw.heap.size yw)
     exact hK.out _ _ ⟨hB.go hbz,fun _=>rfl,hbz.size,.inl hbz,fun h=>absurd h (by decide)⟩
   · rw[if_neg (by rw[wanted_neg rfl rfl t21 (fun e=>hc (by injection e))];decide)];exact hK.out _ _ ⟨hB,fun h=>absurd h hc,Nat.le_refl _,.inl (Below.refl _ _),fun h=>absurd h (by decide)⟩
 refine Stps.cons (o:=_) ?_ ?_
 · intro ac yw hsz hold hB hp K hK;have t21:ac.tmps[21]? = some (.bool x21):=(List.cons.inj (hp 18 (by decide))).1
   by_cases hc:(x21)=false
   · rw[hc]at t21;rw[if_pos (wanted_pos rfl rfl t21)];have t1:ac.tmps[1]? = some (.pointer (some ⟨w.heap.size,0,none⟩)):=hold 1 (by kernel_rfl);clear hold hp hsz;go_simp;exact hK.out _ _ ⟨hB,fun _=>rfl,Nat.le_refl _,.inl (Below.refl _ _),fun h=>absurd h (by decide)⟩
   · rw[if_neg (by rw[wanted_neg rfl rfl t21 (fun e=>hc (by injection e))];decide)];exact hK.out _ _ ⟨hB,fun h=>absurd h hc,Nat.le_refl _,.inl (Below.refl _ _),fun h=>absurd h (by decide)⟩
 refine Stps.cons (o:=_) ?_ ?_
 · intro ac yw hsz hold hB hp K hK;have t21:ac.tmps[21]? = some (.bool x21):=(List.cons.inj (hp 18 (by decide))).1
   by_cases hc:(x21)=false
   · rw[hc]at t21;rw[if_pos (wanted_pos rfl rfl t21)];have e22:=hp 22 (by decide) hc;have t25:ac.tmps[25]? = some (.pointer (some ⟨w.heap.size,2,none⟩)):=(List.cons.inj e22).1;clear hold hp hsz e22;have⟨q0,q1,q2⟩:=hB.now.1.c3;go_simp;exact hK.out _ _ ⟨hB,fun _=>rfl,Nat.le_refl _,.inl (Below.refl _ _),fun h=>absurd h (by decide)⟩
   · rw[if_neg (by rw[wanted_neg rfl rfl t21 (fun e=>hc (by injection e))];decide)];exact hK.out _ _ ⟨hB,fun h=>absurd h hc,Nat.le_refl _,.inl (Below.refl _ _),fun h=>absurd h (by decide)⟩
 refine Stps.cons (o:=_) ?_ ?_
 · intro ac yw hsz hold hB hp K hK;have t21:ac.tmps[21]? = some (.bool x21):=(List.cons.inj (hp 18 (by decide))).1
   by_cases hc:(x21)=false
   · rw[hc]at t21;rw[if_pos (wanted_pos rfl rfl t21)];have e21:=hp 21 (by decide) hc;have t24:ac.tmps[24]? = some (.string t1):=(List.cons.inj e21).1;have e23:=hp 23 (by decide) hc;have t26:ac.tmps[26]? = some (.string t):=(List.cons.inj e23).1;clear hold hp hsz e21 e23;go_simp;exact hK.out _ _ ⟨hB,fun _=>rfl,Nat.le_refl _,.inl (Below.refl _ _),fun h=>absurd h (by decide)⟩
   · rw[if_neg (by rw[wanted_neg rfl rfl t21 (fun e=>hc (by injection e))];decide)];exact hK.out _ _ ⟨hB,fun h=>absurd h hc,Nat.le_refl _,.inl (Below.refl _ _),fun h=>absurd h (by decide)⟩
 refine Stps.cons (o:=_) ?_ ?_
 · intro ac yw hsz hold hB hp K hK;have t21:ac.tmps[21]? = some (.bool x21):=(List.cons.inj (hp 18 (by decide))).1
   by_cases hc:(x21)=true
   · rw[hc]at t21;clear hold hp hsz;go_simp;exact hK.out _ _ ⟨hB,congrArg (fun b => [some (Value.bool b)]) (P3.out hc).symm,Nat.le_refl _,.inl (Below.refl _ _),fun h=>absurd h (by decide)⟩
   · have hc:(x21)=false:=by simpa using hc
     rw[hc]at t21;have t27:ac.tmps[27]? = some (.bool (!e2)):=(List.cons.inj (hp 24 (by decide) hc)).1;clear hold hp hsz;go_simp;exact hK.out _ _ ⟨hB,congrArg (fun b => [some (Value.bool b)]) (Q3.out hc).symm,Nat.le_refl _,.inl (Below.refl _ _),fun h=>absurd h (by decide)⟩
 refine Stps.cons (o:=_) ?_ ?_
 · intro ac yw hsz hold hB hp K hK;have e25:=hp 25 (by decide);have t28:ac.tmps[28]? = some (.bool x29):=(List.cons.inj e25).1;clear hold hp hsz e25;go_simp;exact hK.out _ _ ⟨hB,rfl,Nat.le_refl _,.inl (Below.refl _ _),fun h=>absurd h (by decide)⟩
 refine Stps.cons (o:=_) ?_ ?_
 · intro ac yw hsz hold hB hp K hK;have t29:ac.tmps[29]? = some (.bool x29):=(List.cons.inj (hp 26 (by decide))).1
   by_cases hc:(x29)=false
   · rw[hc]at t29;rw[if_pos (wanted_pos rfl rfl t29)];have t1:ac.tmps[1]? = some (.pointer (some ⟨w.heap.size,0,none⟩)):=hold 1 (by kernel_rfl);clear hold hp hsz;go_simp;exact hK.out _ _ ⟨hB,fun _=>rfl,Nat.le_refl _,.inl (Below.refl _ _),fun h=>absurd h (by decide)⟩
   · rw[if_neg (by rw[wanted_neg rfl rfl t29 (fun e=>hc (by injection e))];decide)];exact hK.out _ _ ⟨hB,fun h=>absurd h hc,Nat.le_refl _,.inl (Below.refl _ _),fun h=>absurd h (by decide)⟩
 refine Stps.cons (o:=_) ?_ ?_
 · intro ac yw hsz hold hB hp K hK;have t29:ac.tmps[29]? = some (.bool x29):=(List.cons.inj (hp 26 (by decide))).1
   by_cases hc:(x29)=false
   · rw[hc]at t29;rw[if_pos (wanted_pos rfl rfl t29)];have e27:=hp 27 (by decide) hc;have t30:ac.tmps[30]? = some (.pointer (some ⟨w.heap.size,2,none⟩)):=(List.cons.inj e27).1;clear hold hp hsz e27;have⟨q0,q1,q2⟩:=hB.now.1.c3;go_simp;exact hK.out _ _ ⟨hB,fun _=>rfl,Nat.le_refl _,.inl (Below.refl _ _),fun h=>absurd h (by decide)⟩
   · rw[if_neg (by rw[wanted_neg rfl rfl t29 (fun e=>hc (by injection e))];decide)];exact hK.out _ _ ⟨hB,fun h=>absurd h hc,Nat.le_refl _,.inl (Below.refl _ _),fun h=>absurd h (by decide)⟩
 refine Stps.cons (o:=_) ?_ ?_
 · intro ac yw hsz hold hB hp K hK;have t29:ac.tmps[29]? = some (.bool x29):=(List.cons.inj (hp 26 (by decide))).1
   by_cases hc:(x29)=false
   · rw[hc]at t29;rw[if_pos (wanted_pos rfl rfl t29)];have e28:=hp 28 (by decide) hc;have t31:ac.tmps[31]? = some (.string t):=(List.cons.inj e28).1;clear hold hp hsz e28;go_simp;exact hK.out _ _ ⟨hB,fun _=>rfl,Nat.le_refl _,.inl (Below.refl _ _),fun h=>absurd h (by decide)⟩
   · rw[if_neg (by rw[wanted_neg rfl rfl t29 (fun e=>hc (by injection e))];decide)];exact hK.out _ _ ⟨hB,fun h=>absurd h hc,Nat.le_refl _,.inl (Below.refl _ _),fun h=>absurd h (by decide)⟩
 refine Stps.cons (o:=_) ?_ ?_
 · intro ac yw hsz hold hB hp K hK;have t29:ac.tmps[29]? = some (.bool x29):=(List.cons.inj (hp 26 (by decide))).1
   by_cases hc:(x29)=true
   · rw[hc]at t29;clear hold hp hsz;go_simp;exact hK.out _ _ ⟨hB,congrArg (fun b => [some (Value.bool b)]) (P4.out hc).symm,Nat.le_refl _,.inl (Below.refl _ _),fun h=>absurd h (by decide)⟩
   · have hc:(x29)=false:=by simpa using hc
     rw[hc]at t29;have t32:ac.tmps[32]? = some (.bool z):=(List.cons.inj (hp 29 (by decide) hc)).1;clear hold hp hsz;go_simp;exact hK.out _ _ ⟨hB,congrArg (fun b => [some (Value.bool b)]) (Q4.out hc).symm,Nat.le_refl _,.inl (Below.refl _ _),fun h=>absurd h (by decide)⟩
 exact Stps.nil _
end Go.Proofs.YtdmmenaejkpnjaaGreatDoor
namespace Go.Proofs.YtdmmenaejkpnjaaGreatDoor
open Go.RowKit
theorem r6Right_any (cs : Array Value) (S : Nat -> Int) (r : Nat) (ch : Bool) (g : Nat -> Int) (tn : Nat) (fB : Nat -> Bool) (fS fT : Nat -> ByteArray) (nn : Nat) (w : World) (h : PlnAt w cs S r ch g tn fB fS fT nn) (hS : In64 S r) (hs : Short fS fT nn) :
    Calls Tryz.prog 33 #[.agg cs] w fun e w'=>SameTold (ofB S r ch tn fB fS fT nn) w w' e:=by
 obtain⟨sa,sc,ta,tc,na,nc,rfl,h1,h2,h3⟩:=h;have hl1:=h1.len;have hl2:=h2.len;have hl3:=h3.len;have BB:=Lib.hid (((((Bag.start w).krow h1).krow h2).qrow h3).newRow (plC sa r sc ch ta tn tc na nn nc) 26);have RC:=Lib.hid (fun wz p=>r6Count_any sa r sc S wz p hS);unfold CntTold cntI at RC;have RT:=Lib.hid (fun j (hj:j<nn) wz=>r3Right_any (fB j) (fS j) (fT j) wz (hs j hj).1 (hs j hj).2);unfold plC at BB;unfold plC;have H0:=Lib.hid BB.out.below;clear h1 h2 h3 hs hS
 cases hsh:shB S r with
 | false =>
  have ho:ofB S r ch tn fB fS fT nn=false:=by unfold ofB;rw[hsh];cases ch<;>simp
  rw[ho];rw[hsh,if_neg (by decide)]at RC;clear ho hsh;go_enter Tryz.func33,Tryz.ntmps33;go_wp2_with fail;go_at_call 88;refine(RC.out _ BB.out.now.2.2.2.1).mono ?_;rintro e w2 ⟨rfl,rfl⟩;go_wp2;go_ret;exact⟨rfl,H0.out⟩
 | true =>
  have hob:ofB S r ch tn fB fS fT nn=if ch then decide (nn=0)&&decide (itm S r=tn)else decide (tn=0)&&(okN fB fS fT nn&&decide (itm S r=nn)):=by unfold ofB;rw[hsh,Bool.true_and,Bool.true_and]
  rw[hob];rw[hsh,if_pos rfl]at RC;generalize itm S r=K0 at *;clear hob hsh
  cases ch with
  | true =>
   rw[if_pos rfl]
   by_cases hk:K0=(tn:Int)
   · subst hk; have e1 : ((tn : Int) != tn) = false := bne_self_eq_false _
     by_cases h0:nn=0
     · have e2 : ((nn : Int) != 0) = false := by rw [h0]; rfl
       have HT:Hid (okN fB fS fT nn=(decide (nn=0)&&decide ((tn:Int)=tn))):=by show _=_;rw[h0,decide_eq_true rfl,decide_eq_true rfl];rfl
       have HN:=Lib.hid h0;clear h0;generalize (decide (nn=0)&&decide ((tn:Int)=tn))=ans at *;go_enter Tryz.func33,Tryz.ntmps33;go_wp2_with fail;go_at_call 88;refine(RC.out _ BB.out.now.2.2.2.1).mono ?_;rintro e w2 ⟨rfl,hw2⟩;have BB:=Lib.hid (hw2▸BB.out);have HBW:Hid (Below w.heap.size w w2):=Lib.hid BB.out.below;clear hw2;obtain⟨x0,x1,x2,x3⟩:=pl_cells BB.out.now.1;go_wp2_with fail
       go_loopw [5] (fun i wr=>∃k:Nat,k<=nn/\i=.int .i64 k/\Hid (Below w2.heap.size w2 wr/\okN fB fS fT k=true)) (fun i _=>nn-(intOf i).toNat)
       case atStart=>exact⟨0,by omega,rfl,Below.refl _ _,rfl⟩
       case round =>
        obtain⟨k,hk,rfl,hrel⟩:=hrel;obtain⟨hbl,hok⟩:=hrel.out;have B4:=Lib.hid (BB.out.go hbl);clear x0 x1 x2 x3;obtain⟨x0,x1,x2,x3⟩:=pl_cells B4.out.now.1
        by_cases hlt:k<nn
        · obtain⟨b,off,rfl,hb,c1,c2,c3⟩:=B4.out.now.2.1.get hlt;have RK:=Lib.hid (RT.out k hlt);have HBL:=Lib.hid hbl
          cases ho:ofO (fB k) (fS k) (fT k)with
          | false =>
           have hno:okN fB fS fT nn=false:=by
            cases hx:okN fB fS fT nn with
            | false=>rfl
            | true=>rw[okN_iff.1 hx k hlt]at ho;cases ho
           have HNO:Hid (ans=false):=Lib.hid (HT.out.symm.trans hno);rw[ho]at RK;clear hbl hok hno ho;generalize fB k=u1 at *;generalize fS k=u2 at *;generalize fT k=u3 at *;go_wp2_with fail;go_at_call 54;refine(RK.out _).mono ?_;rintro e w4 ⟨rfl,hb4⟩;have HE:Hid (SameTold ans w w4 (.returned (.bool false))):=Lib.hid ⟨by rw[HNO.out],(B4.out.go hb4).below⟩;clear hb4;go_wp2;go_ret;exact HE.out
          | true =>
           have HO2:Hid (okN fB fS fT (k+1)=true):=by show(okN fB fS fT k&&_)=true;rw[hok,ho];rfl
           rw[ho]at RK;clear hbl hok ho;generalize fB k=u1 at *;generalize fS k=u2 at *;generalize fT k=u3 at *;go_wp2_with fail;go_at_call 54;refine(RK.out _).mono ?_;rintro e w4 ⟨rfl,hb4⟩;have HN2:Hid (Below w2.heap.size w2 w4/\okN fB fS fT (k+1)=true):=Lib.hid ⟨HBL.out.trans (hb4.mono HBL.out.size),HO2.out⟩;clear hb4;go_wp2
           go_roundw
           case rel=>exact⟨k+1,by omega,by go_num,HN2.out⟩
           case measure=>simp[intOf];omega
        · obtain rfl:k=nn:=by omega
          have HE:Hid (SameTold ans w wr (.returned (.bool true))):=Lib.hid ⟨by rw[← HT.out,hok],B4.out.below⟩;clear hbl hok;go_wp2;go_ret;exact HE.out
     · have e2:((nn:Int) != 0)=true:=bne_iff_ne.2 (by omega);rw[decide_eq_false h0,Bool.false_and];clear h0;go_enter Tryz.func33,Tryz.ntmps33;go_wp2_with fail;go_at_call 88;refine(RC.out _ BB.out.now.2.2.2.1).mono ?_;rintro e w2 ⟨rfl,rfl⟩;go_wp2;go_ret;exact⟨rfl,H0.out⟩
   · have e1:((tn:Int) != K0)=true:=bne_iff_ne.2 (fun e=>hk e.symm);rw[decide_eq_false hk,Bool.and_false];clear hk;go_enter Tryz.func33,Tryz.ntmps33;go_wp2_with fail;go_at_call 88;refine(RC.out _ BB.out.now.2.2.2.1).mono ?_;rintro e w2 ⟨rfl,rfl⟩;go_wp2;go_ret;exact⟨rfl,H0.out⟩
  | false =>
   rw[if_neg (by decide)]
   by_cases hk:K0=(nn:Int)
   · subst hk; have e1 : ((nn : Int) != nn) = false := bne_self_eq_false _
     by_cases h0:tn=0
     · have e2 : ((tn : Int) != 0) = false := by rw [h0]; rfl
       have HT:Hid (okN fB fS fT nn=(decide (tn=0)&&(okN fB fS fT nn&&decide ((nn:Int)=nn)))):=by show _=_;rw[decide_eq_true h0,decide_eq_true rfl,Bool.true_and,Bool.and_true]
       have HN:=Lib.hid h0;clear h0;generalize (decide (tn=0)&&(okN fB fS fT nn&&decide ((nn:Int)=nn)))=ans at *;go_enter Tryz.func33,Tryz.ntmps33;go_wp2_with fail;go_at_call 88;refine(RC.out _ BB.out.now.2.2.2.1).mono ?_;rintro e w2 ⟨rfl,hw2⟩;have BB:=Lib.hid (hw2▸BB.out);have HBW:Hid (Below w.heap.size w w2):=Lib.hid BB.out.below;clear hw2;obtain⟨x0,x1,x2,x3⟩:=pl_cells BB.out.now.1;go_wp2_with fail
       go_loopw [5] (fun i wr=>∃k:Nat,k<=nn/\i=.int .i64 k/\Hid (Below w2.heap.size w2 wr/\okN fB fS fT k=true)) (fun i _=>nn-(intOf i).toNat)
       case atStart=>exact⟨0,by omega,rfl,Below.refl _ _,rfl⟩
       case round =>
        obtain⟨k,hk,rfl,hrel⟩:=hrel;obtain⟨hbl,hok⟩:=hrel.out;have B4:=Lib.hid (BB.out.go hbl);clear x0 x1 x2 x3;obtain⟨x0,x1,x2,x3⟩:=pl_cells B4.out.now.1
        by_cases hlt:k<nn
        · obtain⟨b,off,rfl,hb,c1,c2,c3⟩:=B4.out.now.2.1.get hlt;have RK:=Lib.hid (RT.out k hlt);have HBL:=Lib.hid hbl
          cases ho:ofO (fB k) (fS k) (fT k)with
          | false =>
           have hno:okN fB fS fT nn=false:=by
            cases hx:okN fB fS fT nn with
            | false=>rfl
            | true=>rw[okN_iff.1 hx k hlt]at ho;cases ho
           have HNO:Hid (ans=false):=Lib.hid (HT.out.symm.trans hno);rw[ho]at RK;clear hbl hok hno ho;generalize fB k=u1 at *;generalize fS k=u2 at *;generalize fT k=u3 at *;go_wp2_with fail;go_at_call 54;refine(RK.out _).mono ?_;rintro e w4 ⟨rfl,hb4⟩;have HE:Hid (SameTold ans w w4 (.returned (.bool false))):=Lib.hid ⟨by rw[HNO.out],(B4.out.go hb4).below⟩;clear hb4;go_wp2;go_ret;exact HE.out
          | true =>
           have HO2:Hid (okN fB fS fT (k+1)=true):=by show(okN fB fS fT k&&_)=true;rw[hok,ho];rfl
           rw[ho]at RK;clear hbl hok ho;generalize fB k=u1 at *;generalize fS k=u2 at *;generalize fT k=u3 at *;go_wp2_with fail;go_at_call 54;refine(RK.out _).mono ?_;rintro e w4 ⟨rfl,hb4⟩;have HN2:Hid (Below w2.heap.size w2 w4/\okN fB fS fT (k+1)=true):=Lib.hid ⟨HBL.out.trans (hb4.mono HBL.out.size),HO2.out⟩;clear hb4;go_wp2
           go_roundw
           case rel=>exact⟨k+1,by omega,by go_num,HN2.out⟩
           case measure=>simp[intOf];omega
        · obtain rfl:k=nn:=by omega
          have HE:Hid (SameTold ans w wr (.returned (.bool true))):=Lib.hid ⟨by rw[← HT.out,hok],B4.out.below⟩;clear hbl hok;go_wp2;go_ret;exact HE.out
     · have e2:((tn:Int) != 0)=true:=bne_iff_ne.2 (by omega);rw[decide_eq_false h0,Bool.false_and];clear h0;go_enter Tryz.func33,Tryz.ntmps33;go_wp2_with fail;go_at_call 88;refine(RC.out _ BB.out.now.2.2.2.1).mono ?_;rintro e w2 ⟨rfl,rfl⟩;go_wp2;go_ret;exact⟨rfl,H0.out⟩
   · have e1:((nn:Int) != K0)=true:=bne_iff_ne.2 (fun e=>hk e.symm);rw[decide_eq_false hk,Bool.and_false,Bool.and_false];clear hk;go_enter Tryz.func33,Tryz.ntmps33;go_wp2_with fail;go_at_call 88;refine(RC.out _ BB.out.now.2.2.2.1).mono ?_;rintro e w2 ⟨rfl,rfl⟩;go_wp2;go_ret;exact⟨rfl,H0.out⟩
def LightTold(m:Int)(S:Nat->Int)(r:Nat)(ch:Bool)(tn:Nat)(fB:Nat->Bool)(fS fT:Nat->ByteArray)(nn:Nat)(w w':World)(e:Ending):Prop :=
 ∃b,e=.returned (.bool b)/\(b=true->(tn:Int)<=m/\(nn:Int)<=m/\r<=8/\Short fS fT nn/\ofB S r ch tn fB fS fT nn=true)/\Below w.heap.size w w'
theorem light_any (m : Int) (cs : Array Value) (S : Nat -> Int) (r : Nat) (ch : Bool) (g : Nat -> Int) (tn : Nat) (fB : Nat -> Bool) (fS fT : Nat -> ByteArray) (nn : Nat) (w : World) (h : PlnAt w cs S r ch g tn fB fS fT nn) (hS : In64 S r) (hz : ∀ j, j < nn -> (fS j).size <= maxLen /\ (fT j).size <= maxLen) :
    Calls Tryz.prog 9 #[.agg cs,.int .i64 m] w fun e w'=>LightTold m S r ch tn fB fS fT nn w w' e:=by
 have RI:=Lib.hid (fun wz cs p hs=>r6Right_any cs S r ch g tn fB fS fT nn wz p hS hs);obtain⟨sa,sc,ta,tc,na,nc,rfl,h1,h2,h3⟩:=h;have hl1:=h1.len;have hl2:=h2.len;have hl3:=h3.len;have BB:=Lib.hid (((((Bag.start w).krow h1).krow h2).qrow h3).newRow (plC sa r sc ch ta tn tc na nn nc) 26);unfold SameTold at RI;have H0:Hid (LightTold m S r ch tn fB fS fT nn w (w.alloc (.cells (plC sa r sc ch ta tn tc na nn nc) 26)) (.returned (.bool false))):=Lib.hid ⟨false,rfl,fun h=>(by cases h),BB.out.below⟩;unfold plC at BB H0;unfold plC;clear h1 h2 h3 hS
 by_cases h1:m<(tn:Int)
 · go_enter Tryz.func9,Tryz.ntmps9;go_wp2;go_ret;exact H0.out
 by_cases h2:m<(nn:Int)
 · go_enter Tryz.func9,Tryz.ntmps9;go_wp2;go_ret;exact H0.out
 by_cases h3:(8:Int)<(r:Int)
 · go_enter Tryz.func9,Tryz.ntmps9;go_wp2;go_ret;exact H0.out
 have HZ:=Lib.hid hz;have HC:Hid ((tn:Int)<=m/\(nn:Int)<=m/\r<=8):=⟨by omega,by omega,by omega⟩
 clear hz;have HB0:=Lib.hid BB.out.below;go_enter Tryz.func9,Tryz.ntmps9;go_wp2_with fail
 go_loopw [5] (fun i wr=>∃k:Nat,k<=nn/\i=.int .i64 k/\Hid (Below (w.heap.size+1) (w.alloc (.cells #[.slice sa r sc,.bool ch,.slice ta tn tc,.slice na nn nc] 26)) wr/\∀j,j<k->(fS j).size<=60/\(fT j).size<=60)) (fun i _=>nn-(intOf i).toNat)
 case atStart=>exact⟨0,by omega,rfl,by have:=Below.refl (w.alloc (.cells #[.slice sa r sc,.bool ch,.slice ta tn tc,.slice na nn nc] 26)).heap.size (w.alloc (.cells #[.slice sa r sc,.bool ch,.slice ta tn tc,.slice na nn nc] 26));simpa using this,fun j hj=>absurd hj (Nat.not_lt_zero _)⟩
 case round =>
  obtain⟨k,hk,rfl,hrel⟩:=hrel;obtain⟨hbl,hsm⟩:=hrel.out;have B4:=Lib.hid (BB.out.go (by simpa using hbl));obtain⟨x0,x1,x2,x3⟩:=pl_cells B4.out.now.1
  by_cases hlt:k<nn
  · obtain ⟨b, off, rfl, hb, c1, c2, c3⟩ := B4.out.now.2.1.get hlt; obtain ⟨z1, z2⟩ := HZ.out k hlt; have HE : Hid (LightTold m S r ch tn fB fS fT nn w wr (.returned (.bool false))) := Lib.hid ⟨false, rfl, fun h => (by cases h), B4.out.below⟩; have HBL := Lib.hid hbl; have HSM := Lib.hid hsm; clear hbl hsm; have hg1 : (fS k).size <= 9223372036854775807 := by unfold maxLen at z1; omega
    have hg2:(fT k).size<=9223372036854775807:=by unfold maxLen at z2;omega
    by_cases g1:(40:Int)<((fS k).size:Int)
    · generalize fS k=u1 at *;generalize fT k=u2 at *;go_wp2;go_ret;exact HE.out
    by_cases g2:(40:Int)<((fT k).size:Int)
    · generalize fS k=u1 at *;generalize fT k=u2 at *;go_wp2;go_ret;exact HE.out
    have HN:Hid (Below (w.heap.size+1) (w.alloc (.cells #[.slice sa r sc,.bool ch,.slice ta tn tc,.slice (some ⟨b,off,none⟩) nn nc] 26)) wr/\∀j,j<k+1->(fS j).size<=60/\(fT j).size<=60) :=
     ⟨HBL.out,fun j hj=>by
       rcases Nat.lt_or_ge j k with e|e
       · exact HSM.out j e
       · obtain rfl:j=k:=by omega
         exact⟨by omega,by omega⟩⟩
    generalize hu1:fS k=u1 at *;generalize hu2:fT k=u2 at *;clear hu1 hu2;go_wp2
    go_roundw
    case rel=>exact⟨k+1,by omega,by go_num,HN.out⟩
    case measure=>simp[intOf];omega
  · obtain rfl:k=nn:=by omega
    have HR:Hid (Row wr w.heap.size 26 (plC sa r sc ch ta tn tc na k nc)):=Lib.hid B4.out.now.1;have HP:Hid (PlnAt wr (plC sa r sc ch ta tn tc na k nc) S r ch g tn fB fS fT k):=Lib.hid ⟨sa,sc,ta,tc,na,nc,rfl,B4.out.now.2.2.2.1,B4.out.now.2.2.1,B4.out.now.2.1⟩;have RW:=Lib.hid (RI.out wr _ HP.out hsm);have HS:=Lib.hid hsm;clear hbl hsm RI
    go_wp2_with (refine ld_pln rfl (.tmp 2) rfl w.heap.size rfl HR.out ?_)
    go_at_call 33;(with_reducible refine(RW.out).mono ?_);rintro e w3 ⟨rfl,hb3⟩;have HE:Hid (LightTold m S r ch tn fB fS fT k w w3 (.returned (.bool (ofB S r ch tn fB fS fT k)))):=Lib.hid ⟨_,rfl,fun h=>⟨HC.out.1,HC.out.2.1,HC.out.2.2,HS.out,h⟩,(B4.out.go hb3).below⟩;generalize ofB S r ch tn fB fS fT k=ob at *;clear hb3;go_wp2;go_ret;exact HE.out
def LOfTold(S:Nat->Int)(r:Nat)(ch:Bool)(g:Nat->Int)(tn:Nat)(fP:Nat->Int)(fQ:Nat->Nat)(nn:Nat)(w w':World)(e:Ending):Prop :=
 ∃na nc ta tc,e=.returned (.agg (arrC ch ((r:Int)-1) (dm S r) na nn nc ta tn tc))/\RRow w' na nn nc fP fQ/\KRow w' .i32 ta tn tc g/\(ch=false->ta=none/\tc=0)/\(ch=true->na=none/\nc=0)/\Below w.heap.size w w'
theorem lof_any (cs : Array Value) (S : Nat -> Int) (r : Nat) (ch : Bool) (g : Nat -> Int) (tn : Nat) (fB : Nat -> Bool) (fS fT : Nat -> ByteArray) (nn : Nat) (w : World) (h : PlnAt w cs S r ch g tn fB fS fT nn) (hS : In64 S r) (hs : Short fS fT nn) (hn : nn <= 100000) (htn : tn <= 100000) (ho : ofB S r ch tn fB fS fT nn = true) :
    Calls Tryz.prog 12 #[.agg cs] w fun e w'=>LOfTold S r ch g tn (fun j=>ofP (fB j) (fS j) (fT j)) (fun j=>ofQ (fB j) (fS j) (fT j)) nn w w' e:=by
 have OF:=Lib.hid (fun wz cs p=>of6_any cs S r ch g tn fB fS fT nn wz p hS hs hn htn);unfold OfTold at OF;rw[ho]at OF;obtain⟨sa,sc,ta,tc,na,nc,rfl,h1,h2,h3⟩:=h;have BB:=Lib.hid (((((Bag.start w).krow h1).krow h2).qrow h3).newRow (plC sa r sc ch ta tn tc na nn nc) 26 |>.newRow zerC 36);simp only[World.size_alloc]at BB;have HP:=Lib.hid (fun wz a b c=>OF.out wz (plC sa r sc ch ta tn tc na nn nc) ⟨sa,sc,ta,tc,na,nc,rfl,a,b,c⟩);have HR:=Lib.hid BB.out.now.2.1;clear h1 h2 h3 hS hs hn htn ho OF;go_enter Tryz.func12,Tryz.ntmps12
 go_wp2_with (refine ld_pln rfl (.tmp 1) rfl w.heap.size rfl HR.out ?_)
 go_at_call 48
 (with_reducible refine(HP.out _ ?_ ?_ ?_).mono ?_)
 · exact BB.out.now.2.2.2.2.1
 · exact BB.out.now.2.2.2.1
 · exact BB.out.now.2.2.1
 rintro e w3 ⟨cs3,rfl,hcs,hb3⟩;rw[if_pos trivial]at hcs;obtain⟨na3,nc3,ta3,tc3,rfl,hr3,ht3,hf3,hg3⟩:=hcs;have B3:=((BB.out.go hb3).rrow hr3).krow ht3 |>.newRow (arrC ch ((r:Int)-1) (dm S r) na3 nn nc3 ta3 tn tc3) 36
 have HR1:=Lib.hid B3.now.1;have HZ:=Lib.hid B3.now.2.2.2.1;have hz:=B3.now.2.2.2.1;rw[zerC_eq]at hz
 have HE:Hid (LOfTold S r ch g tn (fun j=>ofP (fB j) (fS j) (fT j)) (fun j=>ofQ (fB j) (fS j) (fT j)) nn w ((w3.alloc (.cells (arrC ch ((r:Int)-1) (dm S r) na3 nn nc3 ta3 tn tc3) 36)).setRow (w.heap.size+1) (arrC ch ((r:Int)-1) (dm S r) na3 nn nc3 ta3 tn tc3)) (.returned (.agg (arrC ch ((r:Int)-1) (dm S r) na3 nn nc3 ta3 tn tc3)))) :=
  Lib.hid ⟨na3,nc3,ta3,tc3,rfl,B3.now.2.2.1.away (Row.noLimb hz) (RRow.ne B3.now.2.2.1 hz) (Far.setRow _ _ _),B3.now.2.1.away (KRow.ne B3.now.2.1 (by decide) hz) (Far.setRow _ _ _),hf3,hg3,below_put B3.below (Nat.le_succ _) _⟩
 clear hb3 B3 hr3 ht3 hz;unfold arrC;unfold arrC at HR1
 go_wp2_with (first
  | (refine ld_arr rfl (.tmp 3) rfl w3.heap.size rfl HR1.out ?_)
  | (refine st_arr rfl (.tmp 2) (.tmp 10) rfl (w.heap.size+1) rfl _ _ _ _ _ _ _ _ _ rfl HZ.out rfl ?_))
 exact bodyPost_ret (res_arr Tryz.results12 rfl (HZ.out.put _) rfl) rfl HE.out
theorem ofO_facts{b:Bool}{s t:ByteArray}(h:ofO b s t=true):rB (ofP b s t)=b/\rS (ofP b s t)=s/\str (dec (ofQ b s t))=t/\0<ofQ b s t/\Nat.gcd (ofP b s t).natAbs (ofQ b s t)=1:=by
 unfold ofO ofK at h;simp only[Bool.and_eq_true,decide_eq_true_eq,Bool.not_eq_true',decide_eq_false_iff_not]at h;obtain⟨⟨_,h0⟩,h1,h2,h3⟩:=h;exact⟨h1,h2,h3,loQ_pos _ (by omega),lo_cop _ (by omega)⟩
theorem ofB_true {S : Nat -> Int} {r : Nat} {ch : Bool} {tn : Nat} {fB : Nat -> Bool} {fS fT : Nat -> ByteArray} {nn : Nat} (h : ofB S r ch tn fB fS fT nn = true) :
    shB S r=true/\itm S r=(if ch then tn else nn:Nat)/\(ch=true->nn=0)/\(ch=false->tn=0)/\∀j,j<nn->ofO (fB j) (fS j) (fT j)=true:=by
 unfold ofB at h
 cases ch with
 | true =>
  rw[if_pos rfl]at h;simp only[Bool.and_eq_true,decide_eq_true_eq]at h;exact⟨h.2.1,h.2.2,fun _=>h.1,fun h=>(by cases h),fun j hj=>absurd hj (by omega)⟩
 | false =>
  rw[if_neg (by decide)]at h;simp only[Bool.and_eq_true,decide_eq_true_eq]at h;exact⟨h.2.2.1,h.2.2.2,fun h=>(by cases h),fun _=>h.1,okN_iff.1 h.2.1⟩
theorem dec_length(N:Nat):(dec N).length=dl N:=by unfold dec;exact sdig_length _ _
theorem ofO_small{b:Bool}{s t:ByteArray}(h:ofO b s t=true)(hs:s.size<=60)(ht:t.size<=60):(ofP b s t).natAbs<4294967296^7/\ofQ b s t<4294967296^7:=by
 obtain⟨_,h2,h3,_,_⟩:=ofO_facts h;have big:(10:Nat)^60<4294967296^7:=by decide
 have mono:∀k,k<=60->(10:Nat)^k<=10^60:=fun k hk=>Nat.pow_le_pow_right (by decide) hk
 constructor
 · have e:s.size=dl (ofP b s t).natAbs:=by
     have:=congrArg ByteArray.size h2;unfold rS at this;rw[str_size,dec_length]at this;exact this.symm
   exact Nat.lt_of_lt_of_le (dl_lt _) (Nat.le_trans (mono _ (by omega)) (Nat.le_of_lt big))
 · have e:t.size=dl (ofQ b s t):=by
     have:=congrArg ByteArray.size h3;rw[str_size,dec_length]at this;exact this.symm
   exact Nat.lt_of_lt_of_le (dl_lt _) (Nat.le_trans (mono _ (by omega)) (Nat.le_of_lt big))
theorem ofO_cmp{fB:Nat->Bool}{fS fT:Nat->ByteArray}{n:Nat}(h:∀j,j<n->ofO (fB j) (fS j) (fT j)=true)(hs:Short fS fT n):CmpOk 7 (fun j=>ofP (fB j) (fS j) (fT j)) (fun j=>ofQ (fB j) (fS j) (fT j)) n :=
 fun j hj=>⟨(ofO_facts (h j hj)).2.2.2.1,ofO_small (h j hj) (hs j hj).1 (hs j hj).2⟩
end Go.Proofs.YtdmmenaejkpnjaaGreatDoor
namespace Go.Proofs.YtdmmenaejkpnjaaGreatDoor
open Go.RowKit
attribute [local go_sem ↓] Go.wp_at_zero Go.wp_at_succ
theorem r3Int_any (P : Int) (Q : Nat) (w : World) (hl : dl P.natAbs <= 1000) :
    Calls Tryz.prog 131 #[.agg #[.bool (rB P),.string (rS P),.string (str (dec Q))]] w fun e w'=>e=.returned (.tuple #[.int .i64 (if Q=1 then fitI P else 0),.bool (decide (Q=1)&&fitB P)])/\Below w.heap.size w w':=by
 have h1:=dec_is1 Q;have TA:Hid (∀wz,Calls Tryz.prog 129 #[.agg #[.bool (rB P),.string (rS P),.string (str (dec Q))]] wz fun e w'=>RTold wz w' e P):=fun wz=>r3Top_any P _ wz (by omega)
 have SM:=Lib.hid (fun wz=>rSmall_any P wz hl);unfold RTold at TA;have BB:=Lib.hid ((Bag.start w).box3 (.bool (rB P)) (.string (rS P)) (.string (str (dec Q))) 46);generalize str (dec Q)=t at *;generalize rB P=b at *;generalize rS P=s at *;generalize fitI P=x at *;generalize fitB P=y at *;have⟨q0,q1,q2⟩:=BB.out.now.1.c3;clear hl
 by_cases hq:Q=1
 · rw[decide_eq_true hq]at h1;rw[if_pos hq,decide_eq_true hq,Bool.true_and];clear hq;go_enter Tryz.func131,Tryz.ntmps131
   go_wp2_with (first
    | (go_at_call 129;(with_reducible refine(TA.out _).mono ?_);rintro e w2 ⟨rfl,hb2⟩;have BB:=Lib.hid (BB.out.go hb2))
    | (go_at_call 191;(with_reducible refine(SM.out _).mono ?_);rintro e w3 ⟨rfl,hb3⟩;have BB:=Lib.hid (BB.out.go hb3)))
   go_ret2;exact⟨rfl,BB.out.below⟩
 · rw[decide_eq_false hq]at h1;rw[if_neg hq,decide_eq_false hq,Bool.false_and];clear hq TA SM;go_enter Tryz.func131,Tryz.ntmps131;go_wp2;go_ret2;exact⟨rfl,BB.out.below⟩
end Go.Proofs.YtdmmenaejkpnjaaGreatDoor
namespace Go.Proofs.YtdmmenaejkpnjaaGreatDoor
open Go.RowKit
def NumOk(fB:Nat->Bool)(fS fT:Nat->ByteArray)(fP:Nat->Int)(fQ:Nat->Nat)(n:Nat):Prop :=
 ∀j,j<n->fB j=rB (fP j)/\fS j=rS (fP j)/\fT j=str (dec (fQ j))/\0<fQ j/\dl (fP j).natAbs<=60/\dl (fQ j)<=60
theorem ofO_dl{b:Bool}{s t:ByteArray}(h:ofO b s t=true)(hs:s.size<=60)(ht:t.size<=60):dl (ofP b s t).natAbs<=60/\dl (ofQ b s t)<=60:=by
 obtain⟨_,h2,h3,_,_⟩:=ofO_facts h
 constructor
 · have:=congrArg ByteArray.size h2;unfold rS at this;rw[str_size,dec_length]at this
   omega
 · have:=congrArg ByteArray.size h3;rw[str_size,dec_length]at this
   omega
theorem ofO_num{fB:Nat->Bool}{fS fT:Nat->ByteArray}{n:Nat}(h:∀j,j<n->ofO (fB j) (fS j) (fT j)=true)(hs:Short fS fT n):NumOk fB fS fT (fun j=>ofP (fB j) (fS j) (fT j)) (fun j=>ofQ (fB j) (fS j) (fT j)) n :=
 fun j hj=>⟨(ofO_facts (h j hj)).1.symm,(ofO_facts (h j hj)).2.1.symm,(ofO_facts (h j hj)).2.2.1.symm,(ofO_facts (h j hj)).2.2.2.1,ofO_dl (h j hj) (hs j hj).1 (hs j hj).2⟩
theorem r6Len_any (cs : Array Value) (S : Nat -> Int) (r : Nat) (ch : Bool) (g : Nat -> Int) (tn : Nat) (fB : Nat -> Bool) (fS fT : Nat -> ByteArray) (nn : Nat) (w : World) (h : PlnAt w cs S r ch g tn fB fS fT nn) (h1 : tn <= 1000000) (h2 : nn <= 1000000) :
    Calls Tryz.prog 32 #[.agg cs] w fun e w'=>e=.returned (.int .i64 ((tn+nn:Nat):Int))/\Below w.heap.size w w':=by
 obtain⟨sa,sc,ta,tc,na,nc,rfl,_,_,_⟩:=h;have hw:=IntWalk.i64_in ((tn:Int)+nn) (by omega);have HE:Hid ((tn:Int)+nn=((tn+nn:Nat):Int)):=by show _=_;omega
 have HB:Hid (Below w.heap.size w (w.alloc (.cells (plC sa r sc ch ta tn tc na nn nc) 26))):=(Below.refl _ _).alloc (Nat.le_refl _) _;unfold plC at HB;unfold plC;go_enter Tryz.func32,Tryz.ntmps32;go_wp2;go_ret;exact⟨ret_int HE.out,HB.out⟩
theorem pl_same {cs cs' : Array Value} {S : Nat -> Int} {r : Nat} {ch : Bool} {g : Nat -> Int} {tn : Nat} {fB : Nat -> Bool} {fS fT : Nat -> ByteArray} {nn : Nat} {S' : Nat -> Int} {r' : Nat} {ch' : Bool} {g' : Nat -> Int} {tn' : Nat} {gB : Nat -> Bool} {gS gT : Nat -> ByteArray} {nn' : Nat} {w : World} (e : plB ch ch' r r' S S' tn tn' g g' nn nn' fB fS fT gB gS gT = true)
    (h:PlnAt w cs S r ch g tn fB fS fT nn) (h':PlnAt w cs' S' r' ch' g' tn' gB gS gT nn') :
    Calls Tryz.prog 52 #[.agg cs,.agg cs'] w fun e w'=>e=.returned (.bool true)/\Below w.heap.size w w':=by
 have:=r6PSame_any cs cs' S r ch g tn fB fS fT nn S' r' ch' g' tn' gB gS gT nn' w h h';rw[e]at this;exact this
def Arr(w:World)(cs:Array Value)(S:Nat->Int)(r:Nat)(ch:Bool)(L:Nat)(g:Nat->Int)(fP:Nat->Int)(fQ:Nat->Nat):Prop:=(ch=true->ChrArr w cs S r L g)/\(ch=false->NumArr w cs S r L fP fQ)
theorem Arr.below{w w':World}{cs:Array Value}{S:Nat->Int}{r:Nat}{ch:Bool}{L:Nat}{g fP:Nat->Int}{fQ:Nat->Nat}(h:Arr w cs S r ch L g fP fQ)(hb:Below w.heap.size w w'):Arr w' cs S r ch L g fP fQ:=⟨fun e=>(h.1 e).below hb,fun e=>(h.2 e).below hb⟩
theorem Bag.arr{w0 w:World}{B:World->Prop}{cs:Array Value}{S:Nat->Int}{r:Nat}{ch:Bool}{L:Nat}{g fP:Nat->Int}{fQ:Nat->Nat}(h:Bag w0 B w)(q:Arr w cs S r ch L g fP fQ):Bag w0 (fun y=>Arr y cs S r ch L g fP fQ/\B y) w:=h.add (fun _ _ hb q=>Arr.below q hb) q
theorem Arr.form {w : World} {cs : Array Value} {S : Nat -> Int} {r : Nat} {ch : Bool} {L : Nat} {g fP : Nat -> Int} {fQ : Nat -> Nat} (h : Arr w cs S r ch L g fP fQ) :
    ∃na nn nc ta tn tc,cs=arrC ch ((r:Int)-1) (dm S r) na nn nc ta tn tc/\(if ch then tn else nn)=L/\(if ch then nn else tn)=0:=by
 cases ch with
 | true=>obtain⟨ta,tc,e,_⟩:=h.1 rfl;exact⟨none,0,0,ta,L,tc,e,rfl,rfl⟩
 | false=>obtain⟨na,nc,e,_⟩:=h.2 rfl;exact⟨na,L,nc,none,0,0,e,rfl,rfl⟩
theorem rank8_any (cs : Array Value) (S : Nat -> Int) (r : Nat) (ch : Bool) (L : Nat) (g fP : Nat -> Int) (fQ : Nat -> Nat) (w : World) (h : Arr w cs S r ch L g fP fQ) (hr : r <= 1000) :
    Calls Tryz.prog 101 #[.agg cs] w fun e w'=>e=.returned (.int .i64 r)/\Below w.heap.size w w':=by
 obtain⟨na,nn,nc,ta,tn,tc,rfl,_⟩:=h.form;exact rank_any ch (dm S r) r na nn nc ta tn tc w hr
def whC(ch:Bool)(L:Nat)(fP:Nat->Int)(fQ:Nat->Nat):Bool:=if ch then decide (L=0)else whB fP fQ L
theorem whB_at {fP : Nat -> Int} {fQ : Nat -> Nat} : ∀ {n : Nat}, whB fP fQ n = true -> ∀ j, j < n -> fQ j = 1 /\ fitB (fP j) = true
 | 0,_,j,hj=>absurd hj (Nat.not_lt_zero _)
 | n+1,h,j,hj=>by
  unfold whB at h;rw[Bool.and_eq_true,Bool.and_eq_true,decide_eq_true_eq]at h
  rcases Nat.lt_or_ge j n with h1|h1
  · exact whB_at h.1 j h1
  · obtain rfl:j=n:=by omega
    exact h.2
theorem fitB_at{x:Int}(h:fitB x=true) : -9223372036854775808<=x/\x<=9223372036854775807:=by
 unfold fitB at h
 simp at h
 omega
theorem whC_in{ch:Bool}{L:Nat}{fP:Nat->Int}{fQ:Nat->Nat}(h:whC ch L fP fQ=true):In64 fP L:=fun j hj=>by
 cases ch with
 | true=>have h0:L=0:=of_decide_eq_true h;omega
 | false=>exact fitB_at (whB_at h j hj).2
theorem whole8_any (cs : Array Value) (S : Nat -> Int) (r : Nat) (ch : Bool) (L : Nat) (g fP : Nat -> Int) (fQ : Nat -> Nat) (w : World) (h : Arr w cs S r ch L g fP fQ) (hQ : ch = false -> ∀ j, j < L -> 0 < fQ j) (hL : L <= 1000000) :
    Calls Tryz.prog 161 #[.agg cs] w fun e w'=>WhTold (whC ch L fP fQ) L fP w w' e:=by
 cases ch with
 | true =>
  refine(wholeC_any cs S r L g w (h.1 rfl) hL).mono ?_;rintro e w' ⟨a,m,c,he,h2,hb⟩;refine⟨a,m,c,he,?_,hb⟩
  show if decide (L=0)=true then _ else _
  by_cases h0:L=0
  · subst h0;rw[decide_eq_true rfl,if_pos rfl]at h2 ⊢;exact⟨h2.1,h2.2.1,h2.2.2.1,.inl rfl⟩
  · rw[decide_eq_false h0,if_neg (by decide)]at h2 ⊢;exact h2
 | false=>exact whole6_any cs S r L fP fQ w (h.2 rfl) (hQ rfl) hL
def ArrTold(b:Bool)(S:Nat->Int)(r:Nat)(ch:Bool)(L:Nat)(g fP:Nat->Int)(fQ:Nat->Nat)(w w':World)(e:Ending):Prop :=
 ∃cs,e=.returned (.tuple #[.agg cs,.bool b])/\(if b then Arr w' cs S r ch L g fP fQ else cs=zerC)/\Below w.heap.size w w'
theorem pick8_any (cs : Array Value) (S : Nat -> Int) (r : Nat) (ch : Bool) (L : Nat) (g fP : Nat -> Int) (fQ : Nat -> Nat) (sa : Option Addr) (sr sc : Nat) (T : Nat -> Int) (ta : Option Addr) (tn tc : Nat) (G : Nat -> Int) (w : World) (h : Arr w cs S r ch L g fP fQ)
    (hs:KRow w .i64 sa sr sc T) (hS:In64 T sr) (ht:KRow w .i64 ta tn tc G) (hg:In64 G tn) (hn:tn<=1000000) :
    Calls Tryz.prog 92 #[.agg cs,.slice sa sr sc,.slice ta tn tc] w fun e w'=>ArrTold (shB T sr&&decide (itm T sr=tn)) T sr ch tn (fun j=>elC L g 32 (G j)) (fun j=>elP L fP (G j)) (fun j=>elQ L fQ (G j)) w w' e:=by
 cases ch with
 | true =>
  refine(pickC_any cs S r L g sa sr sc T ta tn tc G w (h.1 rfl) hs hS ht hg hn).mono ?_;rintro e w' ⟨cs',he,h2,hb⟩;refine⟨cs',he,?_,hb⟩
  split
  · rename_i q;rw[if_pos q]at h2;exact⟨fun _=>h2,fun e=>(by cases e)⟩
  · rename_i q;rw[if_neg q]at h2;exact h2
 | false =>
  refine(pickN_any cs S r L fP fQ sa sr sc T ta tn tc G w (h.2 rfl) hs hS ht hg hn).mono ?_;rintro e w' ⟨cs',he,h2,hb⟩;refine⟨cs',he,?_,hb⟩
  split
  · rename_i q;rw[if_pos q]at h2;exact⟨fun e=>(by cases e),fun _=>h2⟩
  · rename_i q;rw[if_neg q]at h2;exact h2
theorem ints8_any (sa : Option Addr) (sn sc : Nat) (f : Nat -> Int) (w : World) (hs : KRow w .i64 sa sn sc f) (hg : In64 f sn) (hn : sn <= 4096) :
    Calls Tryz.prog 34 #[.slice sa sn sc] w fun e w'=>∃cs',e=.returned (.agg cs')/\(∀g,Arr w' cs' (fun _=>(sn:Int)) 1 false sn g f (fun _=>1))/\Below w.heap.size w w':=by
 refine(ints_any sa sn sc f w hs hg hn).mono ?_;rintro e w' ⟨cs',he,h2,hb⟩;exact⟨cs',he,fun g=>⟨fun e=>(by cases e),fun _=>h2⟩,hb⟩
theorem int8_any (X : Int) (w : World) (h : -9223372036854775808 <= X /\ X <= 9223372036854775807) :
    Calls Tryz.prog 36 #[.int .i64 X] w fun e w'=>∃cs',e=.returned (.agg cs')/\(∀g,Arr w' cs' (fun _=>0) 0 false 1 g (fun _=>X) (fun _=>1))/\Below w.heap.size w w':=by
 refine(arrInt_any X w h).mono ?_;rintro e w' ⟨cs',he,h2,hb⟩;exact⟨cs',he,fun g=>⟨fun e=>(by cases e),fun _=>h2⟩,hb⟩
def tnO(ch:Bool)(L:Nat):Nat:=if ch then L else 0
def nnO(ch:Bool)(L:Nat):Nat:=if ch then 0 else L
def Pln(w:World)(cs:Array Value)(S:Nat->Int)(r:Nat)(ch:Bool)(L:Nat)(g:Nat->Int)(fB:Nat->Bool)(fS fT:Nat->ByteArray):Prop:=PlnAt w cs S r ch g (tnO ch L) fB fS fT (nnO ch L)
theorem Pln.below{w w':World}{cs:Array Value}{S:Nat->Int}{r:Nat}{ch:Bool}{L:Nat}{g:Nat->Int}{fB:Nat->Bool}{fS fT:Nat->ByteArray}(h:Pln w cs S r ch L g fB fS fT)(hb:Below w.heap.size w w'):Pln w' cs S r ch L g fB fS fT:=PlnAt.below h hb
theorem QRow.zero{w:World}{sa:Option Addr}{c:Nat}{fB:Nat->Bool}{fS fT:Nat->ByteArray}(h:QRow w sa 0 c fB fS fT)(fB':Nat->Bool)(fS' fT':Nat->ByteArray):QRow w sa 0 c fB' fS' fT':=⟨h.1,h.2.1,.inl rfl⟩
theorem KRow.zero{w:World}{ki:IntKind}{sa:Option Addr}{c:Nat}{f:Nat->Int}(h:KRow w ki sa 0 c f)(f':Nat->Int):KRow w ki sa 0 c f':=⟨h.1,h.2.1,.inl rfl⟩
def Small(ch:Bool)(L:Nat)(fP:Nat->Int)(fQ:Nat->Nat):Prop:=ch=false->CmpOk 7 fP fQ L
theorem plain8_any (cs : Array Value) (S : Nat -> Int) (r : Nat) (ch : Bool) (L : Nat) (g fP : Nat -> Int) (fQ : Nat -> Nat) (w : World) (hr : r <= 8) (h : Arr w cs S r ch L g fP fQ) (hn : L <= 1000000) (hs : Small ch L fP fQ) :
    Calls Tryz.prog 53 #[.agg cs] w fun e w'=>∃cs',e=.returned (.agg cs')/\Pln w' cs' S r ch L g (fun j=>rB (fP j)) (fun j=>rS (fP j)) (fun j=>str (dec (fQ j)))/\Below w.heap.size w w':=by
 cases ch with
 | true =>
  refine(plainC_any cs S r L g w hr (h.1 rfl) hn).mono ?_;rintro e w' ⟨cs',he,⟨sa,sc,ta,tc,na,nc,e1,k1,k2,k3⟩,hb⟩;exact⟨cs',he,⟨sa,sc,ta,tc,na,nc,e1,k1,k2,k3.zero _ _ _⟩,hb⟩
 | false =>
  have hc:=hs rfl;refine(plainN_any cs S r L fP fQ w hr (h.2 rfl) hn (fun j hj=>(hc j hj).1) 7 (by omega) (fun j hj=>(hc j hj).2.1) (fun j hj=>(hc j hj).2.2)).mono ?_;rintro e w' ⟨cs',he,⟨sa,sc,ta,tc,na,nc,e1,k1,k2,k3⟩,hb⟩;exact⟨cs',he,⟨sa,sc,ta,tc,na,nc,e1,k1,k2.zero _,k3⟩,hb⟩
theorem plB_of2{ch:Bool}{r:Nat}{S S':Nat->Int}{tn:Nat}{g g':Nat->Int}{nn:Nat}{fB gB:Nat->Bool}{fS fT gS gT:Nat->ByteArray}(h1:∀j,j<r->S j=S' j)(h3:∀j,j<tn->g j=g' j)(h2:∀j,j<nn->fB j=gB j/\fS j=gS j/\fT j=gT j):plB ch ch r r S S' tn tn g g' nn nn fB fS fT gB gS gT=true:=by
 unfold plB;rw[sameB_iff.2 h1,sameB_iff.2 h3,nsB_iff.2 h2,decide_eq_true rfl,decide_eq_true rfl,decide_eq_true rfl,decide_eq_true rfl]
 rfl
def shf(f:Nat->Int)(p:Nat):Nat->Int:=fun j=>f (p+j)
theorem rm_pos(f:Nat->Int):∀k,1<=rm f k
 | 0=>by show(1:Int)<=1;omega
 | k+1=>by
  have h:=rm_pos f k;have e:1*1<=rm f k*max (f k) 1:=Int.mul_le_mul h (by omega) (by omega) (by omega)
  show 1<=rm f k*max (f k) 1
  omega
theorem rm_add(f:Nat->Int)(p:Nat):∀k,rm f (p+k)=rm f p*rm (shf f p) k
 | 0=>by show rm f p=rm f p*1;omega
 | k+1=>by
  show rm f (p+k)*max (f (p+k)) 1=rm f p*(rm (shf f p) k*max (f (p+k)) 1)
  rw[rm_add f p k,Int.mul_assoc]
theorem itm_add(f:Nat->Int)(p:Nat):∀k,itm f (p+k)=itm f p*itm (shf f p) k
 | 0=>by show itm f p=itm f p*1;omega
 | k+1=>by
  show itm f (p+k)*f (p+k)=itm f p*(itm (shf f p) k*f (p+k))
  rw[itm_add f p k,Int.mul_assoc]
theorem ax_nn{f:Nat->Int}{n j:Nat}(h:axB f n=true)(hj:j<n):0<=f j:=by
 have h1:=ax_le (show j+1<=n by omega) h;unfold axB at h1;rw[Bool.and_eq_true,Bool.and_eq_true,decide_eq_true_eq]at h1;exact h1.2.1
theorem ax_shf{f:Nat->Int}{n:Nat}(p:Nat)(h:axB f n=true):∀k,p+k<=n->axB (shf f p) k=true
 | 0,_=>rfl
 | k+1,hk=>by
  have h1:=ax_shf p h k (by omega);have h2:=ax_bd (ax_le hk h);have h3:=rm_pos f p;have h4:=rm_pos (shf f p) (k+1);have h0:=ax_nn h (show p+k<n by omega);rw[rm_add f p (k+1)]at h2;have h5:1*rm (shf f p) (k+1)<=rm f p*rm (shf f p) (k+1):=Int.mul_le_mul h3 (Int.le_refl _) (by omega) (by omega);unfold axB;rw[h1,decide_eq_true (show 0<=shf f p k from h0),decide_eq_true (show rm (shf f p) (k+1)<=4096 by omega)]
  rfl
theorem sh_ax{f:Nat->Int}{n:Nat}(h:shB f n=true):n<=8/\axB f n=true:=by
 unfold shB at h;rw[Bool.and_eq_true,decide_eq_true_eq]at h;exact h
theorem KRow.take{w:World}{ki:IntKind}{a:Option Addr}{n c:Nat}{f:Nat->Int}(h:KRow w ki a n c f){k:Nat}(hk:k<=n):KRow w ki a k c f:=by
 obtain⟨h1,h2,h3⟩:=h;refine⟨by omega,h2,?_⟩
 rcases h3 with h3|⟨b,off,e,hb,hc⟩
 · exact .inl (by omega)
 · exact .inr ⟨b,off,e,hb,fun j hj=>hc j (by omega)⟩
theorem KRow.from{w:World}{ki:IntKind}{b off:Nat}{n c:Nat}{f:Nat->Int}(h:KRow w ki (some ⟨b,off,none⟩) n c f){p:Nat}(hp:p<=n):KRow w ki (some ⟨b,off+p,none⟩) (n-p) (c-p) (shf f p):=by
 obtain⟨h1,h2,h3⟩:=h;refine⟨by omega,by omega,?_⟩
 rcases h3 with h3|⟨b',off',e,hb,hc⟩
 · exact .inl (by omega)
 · cases e
   exact .inr ⟨b,off+p,rfl,hb,fun j hj=>by rw[Nat.add_assoc];exact hc (p+j) (by omega)⟩
def plc(f g:Nat->Int):Nat->Int
 | 0=>0
 | k+1=>plc f g k*f k+g k
def inB(f g:Nat->Int):Nat->Bool
 | 0=>true
 | k+1=>inB f g k&&(decide (0<=g k)&&decide (g k<f k))
theorem inB_le{f g:Nat->Int}:∀ {k m:Nat},k<=m->inB f g m=true->inB f g k=true:=by
 intro k m
 induction m with
 | zero => intro h h2; obtain rfl : k = 0 := by omega
           exact h2
 | succ m ih =>
  intro h h2
  rcases Nat.lt_or_ge k (m+1)with h3|h3
  · refine ih (by omega) ?_;unfold inB at h2;rw[Bool.and_eq_true]at h2;exact h2.1
  · obtain rfl:k=m+1:=by omega
    exact h2
theorem inB_at{f g:Nat->Int}{n j:Nat}(h:inB f g n=true)(hj:j<n):0<=g j/\g j<f j:=by
 have h1:=inB_le (show j+1<=n by omega) h;unfold inB at h1;rw[Bool.and_eq_true,Bool.and_eq_true,decide_eq_true_eq,decide_eq_true_eq]at h1;exact h1.2
theorem inB_no{f g:Nat->Int}{n j:Nat}(hj:j<n)(h:¬(0<=g j/\g j<f j)):inB f g n=false:=by
 cases hx:inB f g n with
 | false=>rfl
 | true=>exact absurd (inB_at hx hj) h
theorem plc_bd{f g:Nat->Int}:∀ {k:Nat},axB f k=true->inB f g k=true->0<=plc f g k/\plc f g k<itm f k:=by
 intro k
 induction k with
 | zero=>intro _ _;exact⟨Int.le_refl _,by show(0:Int)<1;omega⟩
 | succ k ih =>
  intro h1 h2;have h3:=inB_at h2 (show k<k+1 by omega);obtain⟨i1,i2⟩:=ih (ax_le (by omega) h1) (inB_le (by omega) h2);have h4:(plc f g k+1)*f k<=itm f k*f k:=Int.mul_le_mul_of_nonneg_right (by omega) (by omega);have h5:0<=plc f g k*f k:=Int.mul_nonneg i1 (by omega);rw[Int.add_mul,Int.one_mul]at h4
  show 0<=plc f g k*f k+g k/\plc f g k*f k+g k<itm f k*f k
  omega
def dgs(f:Nat->Int):Nat->Int->Nat->Int
 | 0,_,_=>0
 | k+1,r,j=>if j=k then r%f k else dgs f k (r / f k) j
theorem itm_pos{f:Nat->Int}{n:Nat}(h:axB f n=true){at':Int}(h0:0<=at')(h1:at'<itm f n):∀j,j<n->1<=f j:=by
 induction n generalizing at' with
 | zero=>intro j hj;omega
 | succ n ih =>
  intro j hj;have hn:=ax_nn h (show n<n+1 by omega)
  have hne:f n≠0:=by
   intro e;have:itm f (n+1)=itm f n*f n:=rfl;rw[this,e,Int.mul_zero]at h1
   omega
  by_cases e:j=n
  · subst e;omega
  · have e1 : itm f (n + 1) = itm f n * f n := rfl; have hb := (ax_bd (ax_le (Nat.le_succ n) h)).2.2.1
    have:0<itm f n:=by
     rcases Int.lt_or_le 0 (itm f n)with h3|h3
     · exact h3
     · have h4:itm f n=0:=by omega
       rw[e1,h4,Int.zero_mul]at h1
       omega
    exact ih (ax_le (Nat.le_succ n) h) (Int.le_refl 0) this j (by omega)
theorem quo_lt{f:Nat->Int}{k:Nat}{r:Int}(h1:1<=f k)(hr0:0<=r)(hr:r<itm f (k+1)):0<=r / f k/\r / f k<itm f k/\0<=r%f k/\r%f k<f k:=by
 refine⟨Int.ediv_nonneg hr0 (by omega),Int.ediv_lt_of_lt_mul (by omega) hr,Int.emod_nonneg _ (by omega),Int.emod_lt_of_pos _ (by omega)⟩
theorem dgs_in{f:Nat->Int}:∀ {n:Nat} {r:Int},(∀j,j<n->1<=f j)->0<=r->r<itm f n->inB f (dgs f n r) n=true/\plc f (dgs f n r) n=r:=by
 intro n
 induction n with
 | zero=>intro r _ h0 h1;refine⟨rfl,?_⟩;have:itm f 0=1:=rfl;show 0=r;omega
 | succ n ih =>
  intro r hp h0 h1;obtain⟨q1,q2,q3,q4⟩:=quo_lt (hp n (by omega)) h0 h1;obtain⟨i1,i2⟩:=ih (fun j hj=>hp j (by omega)) q1 q2
  have hd:∀j,j<n->dgs f (n+1) r j=dgs f n (r / f n) j:=fun j hj=>by
   show(if j=n then _ else _)=_
   rw[if_neg (by omega)]
  have hn:dgs f (n+1) r n=r%f n:=by show(if n=n then _ else _)=_;rw[if_pos rfl]
  have hin:∀k,k<=n->inB f (dgs f (n+1) r) k=inB f (dgs f n (r / f n)) k:=by
   intro k
   induction k with
   | zero=>intro _;rfl
   | succ k ihk=>intro hk;unfold inB;rw[ihk (by omega),hd k (by omega)]
  have hpl:∀k,k<=n->plc f (dgs f (n+1) r) k=plc f (dgs f n (r / f n)) k:=by
   intro k
   induction k with
   | zero=>intro _;rfl
   | succ k ihk=>intro hk;unfold plc;rw[ihk (by omega),hd k (by omega)]
  constructor
  · unfold inB;rw[hin n (Nat.le_refl _),i1,hn,decide_eq_true q3,decide_eq_true q4]
    rfl
  · unfold plc;rw[hpl n (Nat.le_refl _),i2,hn,Int.mul_comm];exact Int.mul_ediv_add_emod _ _
def IBox(w:World)(g n:Nat)(h:Nat->Int):Prop:=g<w.heap.size/\Free w g/\∀j,j<n->w.cell? ⟨g,j,none⟩=some (.int .i64 (h j))
theorem IBox.set{w:World}{g n k:Nat}{h:Nat->Int}(q:IBox w g n h)(hk:k<n)(x:Int):IBox (w.setCell ⟨g,k,none⟩ (.int .i64 x)) g n (fun j=>if j=k then x else h j):=by
 refine⟨by simpa using q.1,q.2.1.set _ _,fun j hj => ?_⟩
 by_cases e:j=k
 · subst e
   show _=some (Value.int .i64 (if j=j then x else h j))
   rw[if_pos rfl];exact World.cell?_setCell_same _ _ _ (q.2.2 j hj)
 · show _=some (Value.int .i64 (if j=k then x else h j))
   rw[if_neg e,World.cell?_setCell_other _ _ _ _ (fun h=>by injection h with _ h;omega)];exact q.2.2 j hj
theorem IBox.congr{w:World}{g n:Nat}{h h':Nat->Int}(q:IBox w g n h)(e:∀j,j<n->h j=h' j):IBox w g n h':=⟨q.1,q.2.1,fun j hj=>by rw[q.2.2 j hj,e j hj]⟩
theorem IBox.krow{w:World}{g n:Nat}{h:Nat->Int}(q:IBox w g n h)(hn:n<=maxLen):KRow w .i64 (some ⟨g,0,none⟩) n n h :=
 ⟨Nat.le_refl _,hn,.inr ⟨g,0,rfl,q.1,fun j hj=>by rw[Nat.zero_add];exact q.2.2 j hj⟩⟩
theorem IBox.made(w:World)(n:Nat)(t:TypeId){mc:Array Value}(hmc:mc=madeCells (Value.cells (.int .i64 0)) n):IBox (w.alloc (.cells mc t)) w.heap.size n (fun _=>0):=by
 subst hmc;have hR:=Row.new w t (madeCells (Value.cells (.int .i64 0)) n);refine⟨hR.lt,fun o=>hR.free o,fun j hj => ?_⟩;rw[hR.cell];unfold madeCells;rw[Array.getElem?_map,Array.getElem?_range,if_pos (by omega),Option.map_some]
 simp[Value.cells,Nat.mod_one]
theorem growI_any (n : Nat) (w : World) (hn : n <= 1000000) :
    Calls Tryz.prog 239 #[.slice none 0 0,.int .i64 n] w fun e w'=>∃v,e=.returned v/\w'.ownsRow w.heap.size 3 1 v 0 []/\Below w.heap.size w w':=by
 obtain⟨i0,hi,hz0,hz1,hz2⟩:=info_parts infoI;have d0:¬((n:Int)<0):=by omega
 have hw0:=IntWalk.i64_in (n:Int) (by omega)
 by_cases h0:n=0
 · subst h0;go_enter Tryz.func239,Tryz.ntmps239;go_wp2;go_ret;exact⟨_,rfl,World.ownsRow_nil _ _ _ _,Below.refl _ _⟩
 · have d1:(0:Int)<n:=by omega
   have hr:=fun ty=>Lib.run_append_nil_zeros (P:=Tryz.prog) w 22 3 ty 3 i0 _ .i64 .i64 Tryz.underlying22 Tryz.underlying3 hi hz0 n (by omega) (by rw[hz1];omega) (by omega) (by rw[hz2];omega)
   have hge:=grownCap_ge w n 0 3;have hcm:=grownCap_le_maxLen w n 0 3 (by unfold maxLen;omega)
   have HE:Hid (∀z,z=n->(w.drew.alloc (.cells (Builtin.zeroCells (Value.cells (.int .i64 0)) n++Builtin.zeroCells (Value.cells (.int .i64 0)) (grownCap w n 0 3-n)) 3)).ownsRow w.heap.size 3 1 (.slice (some ⟨w.heap.size,0,none⟩) 0 (grownCap w n 0 3)) 0 []) :=
    Lib.hid (fun _ _=>⟨by simp,.inr ⟨w.heap.size,_,_,rfl,Nat.le_refl _,heap_alloc_new w.drew _,Nat.zero_le _,hcm,by rw[Array.size_append,size_zeroCells,size_zeroCells];simp[Value.cells];omega,by simp⟩⟩)
   have HB:Hid (Below w.heap.size w (w.drew.alloc (.cells (Builtin.zeroCells (Value.cells (.int .i64 0)) n++Builtin.zeroCells (Value.cells (.int .i64 0)) (grownCap w n 0 3-n)) 3))):=Lib.hid ((Below.refl _ _).drew.alloc (Nat.le_refl _) _);generalize grownCap w n 0 3=cp at *;generalize w.drew.alloc (.cells (Builtin.zeroCells (Value.cells (.int .i64 0)) n++Builtin.zeroCells (Value.cells (.int .i64 0)) (cp-n)) 3)=w9 at *;have d2:(0:Int)<=cp:=by omega
   clear hi hz0 hz1 hz2 hcm;go_enter Tryz.func239,Tryz.ntmps239
   go_wp2_with (at_builtin;refine Lib.wpList_append_run _ rfl _ _ _ _ rfl _ _ rfl rfl _ _ (hr _) ?_)
   go_ret;exact⟨_,rfl,HE.out n rfl,HB.out⟩
def LRow(w:World)(a:Option Addr)(m c:Nat)(A:Nat->Option Addr)(N C:Nat->Nat)(F:Nat->Nat->Int):Prop:=m<=c/\c<=maxLen/\(m=0∨∃b off,a=some ⟨b,off,none⟩/\b<w.heap.size /\
 ∀j,j<m->w.cell? ⟨b,off+j,none⟩=some (.slice (A j) (N j) (C j))/\KRow w .i64 (A j) (N j) (C j) (F j)/\(A j=none->C j=0))
theorem LRow.below{w w':World}{a:Option Addr}{m c:Nat}{A:Nat->Option Addr}{N C:Nat->Nat}{F:Nat->Nat->Int}(h:LRow w a m c A N C F)(hb:Below w.heap.size w w'):LRow w' a m c A N C F:=by
 obtain⟨h1,h2,h3⟩:=h;refine⟨h1,h2,h3.imp id ?_⟩;rintro⟨b,off,rfl,hl,hc⟩;exact⟨b,off,rfl,Nat.lt_of_lt_of_le hl hb.size,fun j hj=>⟨(hb.cell (p:=⟨b,off+j,none⟩) hl).trans (hc j hj).1,(hc j hj).2.1.below hb,(hc j hj).2.2⟩⟩
theorem LRow.get {w : World} {a : Option Addr} {m c : Nat} {A : Nat -> Option Addr} {N C : Nat -> Nat} {F : Nat -> Nat -> Int} (h : LRow w a m c A N C F) {j : Nat} (hj : j < m) :
    ∃b off,a=some ⟨b,off,none⟩/\b<w.heap.size/\w.cell? ⟨b,off+j,none⟩=some (.slice (A j) (N j) (C j))/\KRow w .i64 (A j) (N j) (C j) (F j)/\(A j=none->C j=0):=by
 rcases h.2.2 with h|⟨b,off,rfl,hl,hc⟩
 · omega
 · exact⟨b,off,rfl,hl,hc j hj⟩
def app(f:Nat->Int)(n:Nat)(g:Nat->Int):Nat->Int:=fun j=>if j<n then f j else g (j-n)
theorem kcs_congr{ki:IntKind}{f g:Nat->Int}:∀ {n:Nat},(∀j,j<n->f j=g j)->kcs ki f n=kcs ki g n
 | 0,_=>rfl
 | n+1,h=>by unfold kcs;rw[kcs_congr (fun j hj=>h j (by omega)),h n (by omega)]
theorem kcs_app(ki:IntKind)(f:Nat->Int)(n:Nat)(g:Nat->Int):∀m,kcs ki (app f n g) (n+m)=kcs ki f n++kcs ki g m
 | 0=>by
  rw[Nat.add_zero,show kcs ki g 0 = []from rfl,List.append_nil];exact kcs_congr fun j hj=>by unfold app;rw[if_pos hj]
 | m+1=>by
  show kcs ki (app f n g) (n+m) ++ [.int ki (app f n g (n+m))]=kcs ki f n++(kcs ki g m ++ [.int ki (g m)])
  rw[kcs_app ki f n g m,show app f n g (n+m)=g m by unfold app;rw[if_neg (by omega),Nat.add_sub_cancel_left],List.append_assoc]
def tot(N:Nat->Nat):Nat->Nat
 | 0=>0
 | k+1=>tot N k+N k
theorem tot_le(N:Nat->Nat):∀ {k m:Nat},k<=m->tot N k<=tot N m:=by
 intro k m
 induction m with
 | zero => intro h; obtain rfl : k = 0 := by omega
           exact Nat.le_refl _
 | succ m ih =>
  intro h
  rcases Nat.lt_or_ge k (m+1)with h3|h3
  · have:=ih (by omega)
    show tot N k<=tot N m+N m
    omega
  · obtain rfl:k=m+1:=by omega
    exact Nat.le_refl _
def cat(N:Nat->Nat)(F:Nat->Nat->Int):Nat->Nat->Int
 | 0=>fun _=>0
 | k+1=>app (cat N F k) (tot N k) (F k)
theorem kcs_one(ki:IntKind)(f:Nat->Int)(n:Nat):∀u ∈ kcs ki f n,u.oneCell'=true:=by
 induction n with
 | zero=>intro u hu;cases hu
 | succ n ih =>
  intro u hu;unfold kcs at hu
  rcases List.mem_append.1 hu with h|h
  · exact ih u h
  · simp at h;subst h;rfl
theorem krow_news{w:World}{ki:IntKind}{b off n c:Nat}{f:Nat->Int}(h:KRow w ki (some ⟨b,off,none⟩) n c f):∀j u,(kcs ki f n)[j]? = some u->w.cell? ((⟨b,off,none⟩:Addr).add j)=some u:=fun j u hu=>by
 have hj:j<n:=by
  have:=(List.getElem?_eq_some_iff.1 hu).1
  rwa [kcs_length]at this
 rw[kcs_get ki f n j hj]at hu;obtain rfl:=Option.some.inj hu;obtain⟨b',off',e,_,hc⟩:=h.get hj
 cases e
 rw[show(⟨b,off,none⟩:Addr).add j=⟨b,off+j,none⟩by simp[Addr.add]];exact hc
theorem run_append_krow {w : World} (ty : TypeId) (base : Nat) (v : Value) (n : Nat) (xs : List Value) (hown : w.ownsRow base 3 1 v n xs) (a : Option Addr) (m c : Nat) (f : Nat -> Int) (h : KRow w .i64 a m c f) (hn : a = none -> c = 0) (h1 : n + m <= 1000000) (hbase : base <= w.heap.size) :
    ∃v' w',(Builtin.append_ #[22,22] ty #[v,.slice a m c]).run Tryz.prog w=.ok v' w'/\w'.ownsRow base 3 1 v' (n+m) (xs++kcs .i64 f m)/\w.grownBy w' v.ownBlock:=by
 obtain⟨i0,hi,hz0,hz1,hz2⟩:=info_parts infoI
 cases a with
 | none =>
  have hc:=hn rfl;subst hc;have hm:m=0:=by have:=h.1;omega
  subst hm;refine⟨v,w,run_append_owned_none w base _ ty _ i0 1 Tryz.underlying22 hi v n xs hown,?_,⟨rfl,rfl,rfl,Nat.le_refl _,fun _ _ _=>rfl⟩⟩;rw[show kcs .i64 f 0 = []from rfl,List.append_nil];exact hown
 | some ad =>
  obtain⟨b9,off9,sp⟩:=ad
  have hnews:∀i u,(kcs .i64 f m)[i]? = some u->w.cell? ((⟨b9,off9,sp⟩:Addr).add i)=some u:=by
   rcases h.2.2 with h0|⟨_,_,e,_⟩
   · rw[h0];intro i u hu;simp[kcs]at hu
   · cases e;exact krow_news h
  obtain⟨v',w',e1,e2,e3,_⟩:=run_append_own (P:=Tryz.prog) w base 22 ty 3 i0 _ 1 8 Tryz.underlying22 hi hz0 hz1 hz2 rfl (by omega) v n xs hown ⟨b9,off9,sp⟩ m c (kcs .i64 f m) (by rw[kcs_length,Nat.mul_one]) hnews (kcs_one .i64 f m) (by unfold maxLen;omega) (by omega) hbase;exact⟨v',w',e1,e2,e3⟩
theorem concat_any (a : Option Addr) (m c : Nat) (A : Nat -> Option Addr) (N C : Nat -> Nat) (F : Nat -> Nat -> Int) (w : World) (h : LRow w a m c A N C F) (hm : m <= 1000) (ht : tot N m <= 1000000) :
    Calls Tryz.prog 213 #[.slice a m c] w fun e w'=>∃a' c',e=.returned (.slice a' (tot N m) c')/\KRow w' .i64 a' (tot N m) c' (cat N F m)/\NewAt w w' a' (tot N m) c'/\Below w.heap.size w w':=by
 obtain⟨i0,hi,hz0,hz1,hz2⟩:=info_parts infoI;have H:=Lib.hid h;have HT:Hid (∀k,k<=m->tot N k<=1000000):=Lib.hid (fun k hk=>Nat.le_trans (tot_le N hk) ht);have GR:=Lib.hid (fun wz=>growI_any (tot N m) wz ht);have HZ:=Lib.hid (show ∀k,tot N (k+1)=tot N k+N k from fun _=>rfl);have hl:=h.1;clear h ht;go_enter Tryz.func213,Tryz.ntmps213;go_wp2
 go_loop [3,11] (fun t i=>∃k:Nat,k<=m/\i=.int .i64 k/\t=.int .i64 (tot N k:Nat)) (fun _ i=>m-(intOf i).toNat)
 case atStart=>exact⟨0,by omega,rfl,rfl⟩
 case round =>
  obtain⟨k,hk,rfl,rfl⟩:=hrel
  by_cases hlt:k<m
  · obtain⟨b,off,rfl,hb,hc,_,_⟩:=H.out.get hlt;have h1:=HT.out (k+1) (by omega);rw[HZ.out k]at h1;have E:=Lib.hid (show((tot N k:Nat):Int)+(N k:Nat)=((tot N (k+1):Nat):Int)by rw[HZ.out k];omega);have w2:=IntWalk.i64_in (((tot N k:Nat):Int)+(N k:Nat)) (by omega);have d0:¬(((tot N k:Nat):Int)+(N k:Nat)<0):=by omega
    clear h1;generalize ((tot N k:Nat):Int)=t at *;generalize A k=ak at *;generalize N k=nk at *;generalize C k=ck at *;go_wp2
    go_round
    case rel=>exact⟨k+1,by omega,by go_num,vint E.out⟩
    case measure=>simp[intOf];omega
  · obtain rfl : k = m := by omega
    clear hlt;generalize hX:tot N k=X at *;go_wp2_with fail;go_at_call 239;refine(GR.out _).mono ?_;rintro e w2 ⟨v2,rfl,hown2,hb2⟩;have HB2:=Lib.hid hb2;have HO2:=Lib.hid hown2;have H2:=Lib.hid (H.out.below hb2);clear hown2 hb2;go_wp2_with fail
    go_loopw [6,27] (fun v i wr=>∃(j:Nat) (v6:Value),j<=k/\i=.int .i64 j/\v6=v/\Hid (Below w.heap.size w wr/\wr.ownsRow w.heap.size 3 1 v6 (tot N j) (kcs .i64 (cat N F j) (tot N j)))) (fun _ i _=>k-(intOf i).toNat)
    case atStart=>exact⟨0,_,by omega,rfl,rfl,HB2.out,HO2.out⟩
    case round =>
     obtain⟨j,v6,hj,rfl,hv6,hrel⟩:=hrel;subst hv6;obtain⟨hbl,hown⟩:=hrel.out;have hwr:=hbl.size
     by_cases hlt:j<k
     · obtain⟨b,off,rfl,hb,hc,hkr,hnn⟩:=(H.out.below hbl).get hlt;have HOWN:=Lib.hid hown;have HBL:=Lib.hid hbl;have h1:=HT.out (j+1) (by omega);rw[HZ.out j]at h1
       have HE:Hid (∀(v5:Value) (w5:World),w5.ownsRow w.heap.size 3 1 v5 (tot N j+N j) (kcs .i64 (cat N F j) (tot N j)++kcs .i64 (F j) (N j))->w5.ownsRow w.heap.size 3 1 v5 (tot N (j+1)) (kcs .i64 (cat N F (j+1)) (tot N (j+1)))):=Lib.hid (fun v5 w5 h=>by
        rw[HZ.out j]
        show w5.ownsRow _ _ _ _ _ (kcs .i64 (app (cat N F j) (tot N j) (F j)) (tot N j+N j))
        rw[kcs_app]
        exact h)
       clear hown hbl hrel
       cases hA:A j with
       | none =>
        have hC:=hnn hA;have hN:N j=0:=by have:=hkr.1;omega
        rw[hA,hC,hN]at hc;rw[hN,show kcs .i64 (F j) 0 = []from rfl,List.append_nil,Nat.add_zero]at HE;have HN:=Lib.hid (HE.out _ _ HOWN.out);clear hkr hnn HE h1
        go_wp2_with (at_builtin;refine wpList_append_own_none rfl _ _ 22 rfl w.heap.size 3 i0 1 Tryz.underlying22 hi _ _ _ rfl HOWN.out rfl ?_)
        go_roundw
        case rel=>exact⟨j+1,_,by omega,by go_num,rfl,HBL.out,HN.out⟩
        case measure=>simp[intOf];omega
       | some ad =>
        obtain⟨b9,off9,sp⟩:=ad;rw[hA]at hc hkr
        have hsp:sp=none∨N j=0:=by
         rcases hkr.2.2 with h|⟨_,_,e,_⟩
         · exact .inr h
         · cases e;exact .inl rfl
        have HNEWS:Hid (∀i u,(kcs .i64 (F j) (N j))[i]? = some u->wr.cell? ((⟨b9,off9,sp⟩:Addr).add i)=some u):=Lib.hid (by
         rcases hsp with rfl|h0
         · exact krow_news hkr
         · rw[h0];intro i u hu;simp[kcs]at hu)
        have HL:=Lib.hid (show(kcs .i64 (F j) (N j)).length=N j*1 by rw[kcs_length,Nat.mul_one]);have HONE:=Lib.hid (kcs_one .i64 (F j) (N j));have HM:=Lib.hid (show tot N j+N j<=maxLen by unfold maxLen;omega);have HY:=Lib.hid (show(tot N j+N j)*8<=140737488355328 by omega);clear hkr hnn h1 hsp;generalize N j=nj at *;generalize C j=cj at *;generalize kcs .i64 (F j) nj=news at *;generalize tot N j=tj at *
        go_wp2_with (at_builtin;refine wpList_append_own _ rfl _ _ 22 rfl w.heap.size 3 i0 _ 1 8 Tryz.underlying22 hi hz0 hz1 hz2 rfl (by omega) _ _ _ rfl HOWN.out ⟨b9,off9,sp⟩ nj cj news rfl HL.out HNEWS.out HONE.out HM.out HY.out hwr ?_)
        intro v5 w5 hown5 hgrow _;have HN:=Lib.hid (And.intro (HBL.out.grown hgrow hwr (fun q hq=>(HOWN.out.lt q hq).1)) (HE.out _ _ hown5));clear hown5 hgrow;go_wp2
        go_roundw
        case rel=>exact⟨j+1,_,by omega,by go_num,rfl,HN.out⟩
        case measure=>simp[intOf];omega
     · obtain rfl : j = k := by omega
       rw[hX]at hown
       have HE:Hid (∃a' c',v6=.slice a' X c'/\KRow wr .i64 a' X c' (cat N F j)/\NewAt w wr a' X c'):=Lib.hid (by
        obtain⟨a',c',e,hk⟩:=KRow.of_own hown;refine⟨a',c',e,hk,?_⟩
        rcases hown.2 with ⟨e2,h0⟩|⟨g,cap,cur,e2,hge,hh,_⟩
        · rw[e]at e2
          injection e2 with e3 e4 e5
          exact .inl ⟨e3,e4,e5⟩
        · rw[e]at e2
          injection e2 with e3 e4 e5
          exact .inr ⟨g,e3,hge,Free.of_block hh⟩)
       have HBL:=Lib.hid hbl;clear hown hbl hrel hlt;go_wp2;go_ret;obtain⟨a',c',rfl,hk,hn⟩:=HE.out;rw[hX];exact⟨a',c',rfl,hk,hn,HBL.out⟩
theorem join_any (a : Option Addr) (m c : Nat) (A : Nat -> Option Addr) (N C : Nat -> Nat) (F : Nat -> Nat -> Int) (w : World) (h : LRow w a m c A N C F) (hm : m <= 1000) (ht : tot N m <= 1000000) :
    Calls Tryz.prog 163 #[.slice a m c] w fun e w'=>∃a' c',e=.returned (.slice a' (tot N m) c')/\KRow w' .i64 a' (tot N m) c' (cat N F m)/\Below w.heap.size w w':=by
 have CO:=Lib.hid (concat_any a m c A N C F w h hm ht);generalize tot N m=X at *;generalize cat N F m=G at *;clear h;go_enter Tryz.func163,Tryz.ntmps163;go_wp2_with fail;go_at_call 213;(with_reducible refine(CO.out).mono ?_);rintro e w1 ⟨a1,c1,rfl,hk,_,hb⟩;have HE:=Lib.hid (And.intro hk hb);clear hk hb;go_wp2;go_ret;exact⟨_,_,rfl,HE.out⟩
theorem KRow.congr{w:World}{ki:IntKind}{a:Option Addr}{n c:Nat}{f g:Nat->Int}(h:KRow w ki a n c f)(e:∀j,j<n->f j=g j):KRow w ki a n c g:=by
 refine⟨h.1,h.2.1,h.2.2.imp id ?_⟩;rintro⟨b,off,rfl,hl,hc⟩;exact⟨b,off,rfl,hl,fun j hj=>by rw[← e j hj];exact hc j hj⟩
theorem equalI_any (a : Option Addr) (n c : Nat) (f : Nat -> Int) (a2 : Option Addr) (n2 c2 : Nat) (g : Nat -> Int) (w : World) (h : KRow w .i64 a n c f) (h2 : KRow w .i64 a2 n2 c2 g) :
    Calls Tryz.prog 158 #[.slice a n c,.slice a2 n2 c2] w fun e w'=>SameTold (decide (n=n2)&&sameB f g n) w w' e:=by
 have hl:=h.len;have hl2:=h2.len;have H1:=Lib.hid h;have H2:=Lib.hid h2;clear h h2
 by_cases hn:n=n2
 · subst hn; rw [decide_eq_true rfl, Bool.true_and]; have dn : ((n : Int) != n) = false := bne_self_eq_false _; go_enter Tryz.func158, Tryz.ntmps158; go_wp2
   go_loopw [13] (fun i wr=>∃k:Nat,k<=n/\i=.int .i64 k/\Hid (Below w.heap.size w wr/\sameB f g k=true)) (fun i _=>n-(intOf i).toNat)
   case atStart=>exact⟨0,by omega,rfl,Below.refl _ _,rfl⟩
   case round =>
    obtain⟨k,hk,rfl,hrel⟩:=hrel;obtain⟨hbl,hsm⟩:=hrel.out
    by_cases hlt:k<n
    · obtain ⟨b, off, rfl, hb, hc⟩ := (H1.out.below hbl).get hlt; obtain ⟨b2, off2, rfl, hb2, hc2⟩ := (H2.out.below hbl).get hlt; have HBL := Lib.hid hbl; have hk0 : (0 : Int) <= k := by omega
      have hk1:(k:Int)<n:=by omega
      have hk2:(k:Int)<=n:=by omega
      by_cases hq:f k=g k
      · have hsm2:Hid (sameB f g (k+1)=true):=by show(sameB f g k&&_)=true;rw[hsm,decide_eq_true hq];rfl
        clear hbl hsm;rw[← hq]at hc2;have hne:(f k != f k)=false:=bne_self_eq_false _;generalize f k=x at *;clear hq;go_wp2_with fail
        go_quiet (fail)
        have HBE:Hid (Below w.heap.size w (wr.drewN nq)/\sameB f g (k+1)=true):=⟨below_drewN HBL.out nq,hsm2.out⟩
        go_wp2
        go_roundw
        case rel=>exact⟨k+1,by omega,by go_num,HBE.out⟩
        case measure=>simp[intOf];omega
      · have hno:sameB f g n=false:=by
          cases hx:sameB f g n with
          | false=>rfl
          | true=>exact absurd ((sameB_iff.1 hx) k hlt) hq
        have HN:=Lib.hid hno;have hne:(f k != g k)=true:=bne_iff_ne.2 hq;clear hbl hsm hno;generalize f k=x at *;generalize g k=y at *;clear hq;go_wp2_with fail
        go_quiet (fail)
        have HBE:Hid (SameTold (sameB f g n) w (wr.drewN nq) (.returned (.bool false))):=⟨by rw[HN.out],below_drewN HBL.out nq⟩
        go_wp2;go_ret;exact HBE.out
    · obtain rfl:k=n:=by omega
      have HE:Hid (SameTold (sameB f g k) w wr (.returned (.bool true))):=⟨by rw[hsm],hbl⟩
      clear hbl hsm;go_wp2;go_ret;exact HE.out
 · rw[decide_eq_false hn,Bool.false_and];have dn:((n:Int) != n2)=true:=bne_iff_ne.2 (by omega);have HE:Hid (SameTold false w w (.returned (.bool false))):=⟨rfl,Below.refl _ _⟩
   clear hn;go_enter Tryz.func158,Tryz.ntmps158;go_wp2;go_ret;exact HE.out
theorem same_any (a : Option Addr) (n c : Nat) (f : Nat -> Int) (a2 : Option Addr) (n2 c2 : Nat) (g : Nat -> Int) (w : World) (h : KRow w .i64 a n c f) (h2 : KRow w .i64 a2 n2 c2 g) :
    Calls Tryz.prog 91 #[.slice a n c,.slice a2 n2 c2] w fun e w'=>SameTold (decide (n=n2)&&sameB f g n) w w' e:=by
 have EQ:=Lib.hid (equalI_any a n c f a2 n2 c2 g w h h2);unfold SameTold at EQ;unfold SameTold;generalize (decide (n=n2)&&sameB f g n)=x at *;clear h h2;go_enter Tryz.func91,Tryz.ntmps91;go_wp2_with fail;go_at_call 158;(with_reducible refine(EQ.out).mono ?_);rintro e w1 ⟨rfl,hb⟩;have HB:=Lib.hid hb;clear hb;go_wp2;go_ret;exact⟨rfl,HB.out⟩
def RPlTold(f:Nat->Int)(n:Nat)(g:Nat->Int)(m:Nat)(w w':World)(e:Ending):Prop :=
 ∃x,e=.returned (.int .i64 x)/\(inB f g (min n m)=false->x = -1)/\(axB f (min n m)=true->inB f g (min n m)=true->x=plc f g (min n m))/\Below w.heap.size w w'
theorem r6Place_any (a : Option Addr) (n c : Nat) (f : Nat -> Int) (a2 : Option Addr) (m c2 : Nat) (g : Nat -> Int) (w : World) (h : KRow w .i64 a n c f) (h2 : KRow w .i64 a2 m c2 g) :
    Calls Tryz.prog 108 #[.slice a n c,.slice a2 m c2] w fun e w'=>RPlTold f n g m w w' e:=by
 have hl:=h.len;have hl2:=h2.len;have H1:=Lib.hid h;have H2:=Lib.hid h2;clear h h2;obtain⟨mn,hmn⟩:∃q,min n m=q:=⟨_,rfl⟩
 have hm1:mn<=n:=by omega
 have hm2:mn<=m:=by omega
 unfold RPlTold;rw[hmn];go_enter Tryz.func108,Tryz.ntmps108;go_wp2
 go_loopw [5,6] (fun t i wr=>∃(k:Nat) (x:Int),k<=mn/\i=.int .i64 k/\t=.int .i64 x/\Hid (inB f g k=true/\(axB f k=true->x=plc f g k)/\Below w.heap.size w wr)) (fun _ i _=>mn-(intOf i).toNat)
 case atStart=>exact⟨0,0,by omega,rfl,rfl,rfl,fun _=>rfl,Below.refl _ _⟩
 case round =>
  obtain⟨k,x,hk,rfl,rfl,hrel⟩:=hrel;obtain⟨hin,hpl,hbl⟩:=hrel.out
  by_cases hlt:k<mn
  · obtain ⟨b, off, rfl, hb, hc⟩ := (H1.out.below hbl).get (show k < n by omega); obtain ⟨b2, off2, rfl, hb2, hc2⟩ := (H2.out.below hbl).get (show k < m by omega); have HBL := Lib.hid hbl; have hk0 : (0 : Int) <= k := by omega
    have hk1:(k:Int)<n:=by omega
    have hk2:(k:Int)<m:=by omega
    by_cases h0:g k<0
    · have HN:=Lib.hid (inB_no (f:=f) (g:=g) hlt (by omega));clear hbl hin hpl hrel hmn;generalize g k=y at *;generalize f k=x' at *;go_wp2_with fail
      go_quiet (fail)
      have HBE:=Lib.hid (below_drewN HBL.out nq);go_wp2;go_ret;exact⟨-1,rfl,fun _=>rfl,(fun _ h=>by rw[HN.out]at h;cases h),HBE.out⟩
    · by_cases h1 : f k <= g k
      · have HN:=Lib.hid (inB_no (f:=f) (g:=g) hlt (by omega));clear hbl hin hpl hrel hmn;generalize g k=y at *;generalize f k=x' at *;go_wp2_with fail
        go_quiet (fail)
        have HBE:=Lib.hid (below_drewN HBL.out nq);go_wp2;go_ret;exact⟨-1,rfl,fun _=>rfl,(fun _ h=>by rw[HN.out]at h;cases h),HBE.out⟩
      · have hin':inB f g (k+1)=true:=by unfold inB;rw[hin,decide_eq_true (show 0<=g k by omega),decide_eq_true (show g k<f k by omega)];rfl
        have hpl':axB f (k+1)=true->wrap64 (wrap64 (x*f k)+g k)=plc f g (k+1):=fun hax=>by
         have hpb:=plc_bd hax hin';have hpb0:=plc_bd (ax_le (Nat.le_succ k) hax) hin;have hit:=(ax_bd hax).2.2.2;have hrm:=(ax_bd hax).2.1;have e2:plc f g (k+1)=plc f g k*f k+g k:=rfl;rw[e2]at hpb;have hm0:0<=plc f g k*f k:=Int.mul_nonneg hpb0.1 (by omega);rw[hpl (ax_le (Nat.le_succ k) hax),IntWalk.wrap64_in (plc f g k*f k) (by omega),IntWalk.wrap64_in (plc f g k*f k+g k) (by omega)];exact e2.symm
        have HN:=Lib.hid (And.intro hin' hpl');clear hbl hin hin' hpl hpl' hrel hmn;generalize g k=y at *;generalize f k=x' at *;go_wp2_with fail
        go_quiet (fail)
        go_wp2_with fail
        go_quiet (fail)
        go_wp2
        go_roundw
        case rel=>exact⟨k+1,_,by omega,by go_num,rfl,HN.out.1,HN.out.2,below_drewN HBL.out _⟩
        case measure=>simp[intOf];omega
  · obtain rfl:k=mn:=by omega
    have HE:=Lib.hid (And.intro hin (And.intro hpl hbl));clear hbl hin hpl hrel
    by_cases hkn:(k:Int)<n
    · have hkm:¬(k:Int)<m:=by omega
      go_wp2;go_ret;exact⟨x,rfl,fun h=>(by rw[HE.out.1]at h;cases h),fun h _=>HE.out.2.1 h,HE.out.2.2⟩
    · go_wp2;go_ret;exact⟨x,rfl,fun h=>(by rw[HE.out.1]at h;cases h),fun h _=>HE.out.2.1 h,HE.out.2.2⟩
def stF(f:Nat->Int)(n:Nat):Nat->Int:=fun j=>itm (shf f (j+1)) (n-(j+1))
theorem st_step{f:Nat->Int}{n k:Nat}(hk:k<n):itm (shf f k) (n-k)=itm (shf f (k+1)) (n-(k+1))*f k:=by
 have h:=itm_add (shf f k) 1 (n-(k+1));rw[show 1+(n-(k+1))=n-k by omega]at h;rw[h,show shf (shf f k) 1=shf f (k+1)from by funext j;show f (k+(1+j))=f (k+1+j);rw[Nat.add_assoc],show itm (shf f k) 1=f k from by show 1*f (k+0)=f k;rw[Int.one_mul,Nat.add_zero],Int.mul_comm]
def StTold(f:Nat->Int)(n:Nat)(w w':World)(e:Ending):Prop:=∃a m c,e=.returned (.slice a m c)/\(if shB f n then m=n/\KRow w' .i64 a n c (stF f n)else a=none/\m=0/\c=0)/\Below w.heap.size w w'
theorem strides_any (a : Option Addr) (n c : Nat) (f : Nat -> Int) (w : World) (h : KRow w .i64 a n c f) (hf : In64 f n) :
    Calls Tryz.prog 99 #[.slice a n c] w fun e w'=>StTold f n w w' e:=by
 have hl:=h.len;have CN:=Lib.hid (fun wz (h:KRow wz .i64 a n c f)=>count_any a n c f wz h hf);unfold CntTold at CN;have H:=Lib.hid h;clear h hf
 cases hs:shB f n with
 | false =>
  have HE:Hid (StTold f n w w (.returned (.slice none 0 0))):=Lib.hid ⟨none,0,0,rfl,by rw[hs,if_neg (by decide)];exact⟨rfl,rfl,rfl⟩,Below.refl _ _⟩;rw[hs]at CN;generalize cntI f n=x at *;clear hs;go_enter Tryz.func99,Tryz.ntmps99;go_wp2_with fail;go_at_call 97;refine(CN.out _ H.out).mono ?_;rintro e w1 ⟨rfl,rfl⟩;go_wp2;go_ret;exact HE.out
 | true =>
  rw[hs]at CN;generalize cntI f n=x at *;obtain⟨h8,hax⟩:=sh_ax hs;have HAX:=Lib.hid hax;have HS:=Lib.hid hs;obtain⟨i0,hi,hz0,hz1,hz2⟩:=info_parts infoI;have hmk:=fun wz=>run_make (P:=Tryz.prog) wz 22 3 i0 _ Tryz.underlying22 hi hz0 .i64 .i64 n n (by omega) (by omega) (by rw[hz2];omega) (by omega)
  simp only[Int.toNat_natCast,hz1,Nat.mul_one]at hmk
  have H0:Hid (Below w.heap.size w (w.alloc (.cells (madeCells (Value.cells (.int .i64 0)) n) 3))/\IBox (w.alloc (.cells (madeCells (Value.cells (.int .i64 0)) n) 3)) w.heap.size n (fun j=>if j<n then 0 else stF f n j)) :=
   Lib.hid ⟨(Below.refl _ _).alloc (Nat.le_refl _) _,(IBox.made w n 3 rfl).congr (fun j hj=>by rw[if_pos hj])⟩
  have HN0:Hid ((1:Int)=itm (shf f n) (n-n)):=Lib.hid (by rw[Nat.sub_self];rfl);have hw1:=IntWalk.i64_in ((n:Int)-1) (by omega);have hnn:(0:Int)<=n:=by omega
  clear hs hax hi hz0 hz1 hz2;go_enter Tryz.func99,Tryz.ntmps99;go_wp2_with fail;go_at_call 97;refine(CN.out _ H.out).mono ?_;rintro e w1 ⟨rfl,rfl⟩;go_wp2_with fail
  go_loopw [6,7] (fun q ax wr=>∃(k:Nat) (r z:Int),k<=n/\z=(k:Int)-1/\ax=.int .i64 z/\q=.int .i64 r/\Hid (r=itm (shf f k) (n-k)/\Below w.heap.size w wr/\IBox wr w.heap.size n (fun j=>if j<k then 0 else stF f n j))) (fun _ ax _=>(intOf ax+1).toNat)
  case atStart=>exact⟨n,1,(n:Int)-1,Nat.le_refl _,rfl,rfl,rfl,HN0.out,H0.out⟩
  case round =>
   obtain⟨k,r,z,hk,hz,rfl,rfl,hrel⟩:=hrel;obtain⟨hr,hbl,hbox⟩:=hrel.out
   by_cases hk0:0<k
   · obtain ⟨k, rfl⟩ : ∃ k', k = k' + 1 := ⟨k - 1, by omega⟩
     obtain rfl:z=(k:Int):=by omega
     have hlt:k<n:=by omega
     obtain⟨b,off,rfl,hb,hc0⟩:=H.out.get hlt;have hc:=(hbl.cell (p:=⟨b,off+k,none⟩) hb).trans hc0;have hc2:∀v,(wr.setCell ⟨w.heap.size,k,none⟩ v).cell? ⟨b,off+k,none⟩=some (.int .i64 (f k)):=fun v=>by rw[World.cell?_setCell_other _ _ _ _ (fun e=>by injection e with e;omega)];exact hc
     have hst:stF f n k=r:=hr.symm
     have hbox2:IBox (wr.setCell ⟨w.heap.size,k,none⟩ (.int .i64 r)) w.heap.size n (fun j=>if j<k then 0 else stF f n j) :=
      (hbox.set hlt r).congr (fun j hj=>by
        by_cases e:j=k
        · subst e;rw[if_pos rfl,if_neg (by omega)];exact hst.symm
        · rw[if_neg e]
          by_cases e2:j<k
          · rw[if_pos e2,if_pos (by omega)]
          · rw[if_neg e2,if_neg (by omega)])
     have hbd:=ax_bd (ax_shf k HAX.out (n-k) (by omega));have hrs:=st_step (f:=f) hlt;rw[← hr]at hrs;rw[hrs]at hbd
     have HN:Hid (r*f k=itm (shf f k) (n-k)/\Below w.heap.size w (wr.setCell ⟨w.heap.size,k,none⟩ (.int .i64 r))/\IBox (wr.setCell ⟨w.heap.size,k,none⟩ (.int .i64 r)) w.heap.size n (fun j=>if j<k then 0 else stF f n j)) :=
      Lib.hid ⟨hrs.symm,hbl.setCell (p:=⟨w.heap.size,k,none⟩) (Nat.le_refl _) _,hbox2⟩
     have x1:=hbox.2.2 k hlt;simp only[show k<k+1 by omega,if_true]at x1;have x2:=hbox.2.1 k;have hkn:(0:Int)<=k:=by omega
     have hkl:(k:Int)<n:=by omega
     have w2:=IntWalk.i64_in (r*f k) (by omega);have w4:=IntWalk.i64_in ((k:Int)-1) (by omega);clear hbl hbox hbox2 hrel hr hz hst hbd hrs hc hc0;generalize f k=x at *;go_wp2
     go_roundw
     case rel=>exact⟨k,r*x,(k:Int)-1,by omega,rfl,by go_num,rfl,HN.out⟩
     case measure=>simp[intOf]
   · obtain rfl:k=0:=by omega
     obtain rfl:z = -1:=by omega
     have hkr:KRow wr .i64 (some ⟨w.heap.size,0,none⟩) n n (stF f n):=(hbox.congr (h':=stF f n) (fun j _=>by rw[if_neg (by omega)])).krow (by unfold maxLen;omega);have HE:Hid (StTold f n w wr (.returned (.slice (some ⟨w.heap.size,0,none⟩) n n))):=Lib.hid ⟨_,n,_,rfl,by rw[HS.out,if_pos rfl];exact⟨rfl,hkr⟩,hbl⟩;clear hbl hbox hrel hkr hr hz;go_wp2;go_ret;exact HE.out
theorem itm_congr{f f':Nat->Int}:∀ {n:Nat},(∀j,j<n->f j=f' j)->itm f n=itm f' n
 | 0,_=>rfl
 | n+1,h=>by
  show itm f n*f n=itm f' n*f' n
  rw[itm_congr (fun j hj=>h j (by omega)),h n (by omega)]
theorem Arr.away{w w':World}{cs:Array Value}{S:Nat->Int}{r:Nat}{ch:Bool}{L:Nat}{g fP:Nat->Int}{fQ:Nat->Nat}(h:Arr w cs S r ch L g fP fQ){k:Nat}{t:TypeId}{ch':Bool}{more:Int}{d:Nat->Int}{na:Option Addr}{nn nc:Nat}{ta:Option Addr}{tn tc:Nat}(hr:Row w k t (arrC ch' more d na nn nc ta tn tc))(hf:Far k w w'):Arr w' cs S r ch L g fP fQ:=by
 refine⟨fun e => ?_,fun e => ?_⟩
 · obtain⟨a,c,h1,h2⟩:=h.1 e;exact⟨a,c,h1,h2.away (KRow.ne h2 (by decide) hr) hf⟩
 · obtain⟨a,c,h1,h2⟩:=h.2 e;exact⟨a,c,h1,h2.away (Row.noLimb hr) (RRow.ne h2 hr) hf⟩
end Go.Proofs.YtdmmenaejkpnjaaGreatDoor
