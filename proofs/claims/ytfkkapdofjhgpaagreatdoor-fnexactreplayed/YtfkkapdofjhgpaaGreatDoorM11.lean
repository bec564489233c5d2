import Derived.Test.YtfkkapdofjhgpaaGreatDoorM01
import Derived.Test.YtfkkapdofjhgpaaGreatDoorM02
import Derived.Test.YtfkkapdofjhgpaaGreatDoorM04
import Derived.Test.YtfkkapdofjhgpaaGreatDoorM08
import Derived.Test.YtfkkapdofjhgpaaGreatDoorM09
import Derived.Test.YtfkkapdofjhgpaaGreatDoorM10
set_option maxHeartbeats 12800000
namespace Go.Proofs.YtfkkapdofjhgpaaGreatDoor
open Go.RowKit
set_option linter.unusedVariables false
set_option maxRecDepth 100000
theorem zpa (s : ByteArray) : (s.toList == (⟨#[]⟩ : ByteArray).toList)=decide (s.size=0):=by
  rw [zkk,decide_eq_decide]
  constructor
  · intro h;rw [h];rfl
  · intro h;apply zot;exact List.length_eq_zero_iff.1 (by simpa using h)
theorem zra (s : ByteArray) : s.toList = [] ↔ s.size=0:=by
  have h:=zpa s;have e : (⟨#[]⟩ : ByteArray).toList = []:=by rw [ByteArray.toList_eq]
  rw [e,Bool.eq_iff_iff,beq_iff_eq,decide_eq_true_eq] at h;exact h
theorem zbl (k : Int) (nm ot : ByteArray) (at_ va ep : Int) (w : World) (hn : nm.size<=maxLen) (ho : ot.size<=maxLen) :
    Calls Tryz.prog 138 #[.agg #[.int .i64 k,.string nm,.string ot,.int .i64 at_,.int .i64 va,.int .i64 ep]] w fun e w'=>e = .returned (.bool (opOk ⟨k,nm,ot,at_,va,ep⟩))/\Below w.heap.size w w':=by
  obtain ⟨W0,hW0,k0,d0,z0⟩:=zb4 w #[.int .i64 k,.string nm,.string ot,.int .i64 at_,.int .i64 va,.int .i64 ep] 37;have HW0 : Hid (W0 = _):=hW0;obtain ⟨p0,p1,p2,p3,p4,p5⟩:=cq6 k0;clear hW0 k0
  go_enter Tryz.func138,Tryz.ntmps138
  go_wp2_with fail
  rw [<- HW0.out];clear HW0;refine (zg1 nm _ hn).mono ?_;rintro e w' ⟨rfl,rfl⟩;cases h1 : Nums.nameB nm.data.toList
  · have HV : Hid (opOk ⟨k,nm,ot,at_,va,ep⟩=false):=by simp [Hid,opOk,h1]
    clear h1
    go_wp2_with fail
    go_ret;exact ⟨za6 HV.out.symm,d0⟩
  have H1 : Hid _:=h1;clear h1
  go_wp2_with fail
  refine (zb3 k 1 9 _).mono ?_;rintro e w' ⟨rfl,rfl⟩;cases h2 : (decide (1<=k) && decide (k<=9))
  · have HV : Hid (opOk ⟨k,nm,ot,at_,va,ep⟩=false):=by simp [Hid,opOk,inB,h2]
    clear h2
    go_wp2_with fail
    go_ret;exact ⟨za6 HV.out.symm,d0⟩
  have h2' : k=1\/k=2\/k=3\/k=4\/k=5\/k=6\/k=7\/k=8\/k=9:=by simp at h2;omega
  clear h2;have e0:=zra ot;rcases h2' with rfl | rfl | rfl | rfl | rfl | rfl | rfl | rfl | rfl
  · cases h3 : decide (ot.size=0)
    · have h3' : ¬ ot.size=0:=of_decide_eq_false h3
      have HV : Hid (opOk ⟨1,nm,ot,at_,va,ep⟩=false):=by simp [Hid,opOk,inB,kOther,kAt,kEpoch,kSize,valOk,h3']
      have e1 : ¬ ot.toList = []:=fun h=>h3' (e0.1 h)
      clear e0
      go_wp2_with fail
      go_ret;exact ⟨za6 HV.out.symm,d0⟩
    · have h3' : ot.size=0:=of_decide_eq_true h3
      have e1 : ot.toList = []:=e0.2 h3';clear e0;by_cases h5 : ¬ at_=0
      · have HV : Hid (opOk ⟨1,nm,ot,at_,va,ep⟩=false):=by simp [Hid,opOk,inB,kOther,kAt,kEpoch,kSize,valOk,h5]
        have hq : (at_ != 0)=true:=by rw [bne_iff_ne];exact h5
        go_wp2_with fail
        go_ret;exact ⟨za6 HV.out.symm,d0⟩
      obtain rfl : at_=0:=by omega
      clear h5
      go_wp2_with fail
      refine (zb3 0 0 255 _).mono ?_;rintro e w' ⟨rfl,rfl⟩;by_cases h7 : ¬ ep=0
      · have HV : Hid (opOk ⟨1,nm,ot,0,va,ep⟩=false):=by simp [Hid,opOk,inB,kOther,kAt,kEpoch,kSize,valOk,h7]
        have hq : (ep != 0)=true:=by rw [bne_iff_ne];exact h7
        go_wp2_with fail
        go_ret;exact ⟨za6 HV.out.symm,d0⟩
      obtain rfl : ep=0:=by omega
      clear h7
      go_wp2_with fail
      refine (zb3 0 0 1000 _).mono ?_;rintro e w' ⟨rfl,rfl⟩;have HV : Hid (opOk ⟨1,nm,ot,0,va,0⟩=(decide ((1 : Int)<=va) && decide (va<=16))):=by simp [Hid,opOk,inB,kOther,kAt,kEpoch,kSize,valOk,H1.out,h3']
      go_wp2_with fail
      refine (zb3 va 1 16 _).mono ?_;rintro e w' ⟨rfl,rfl⟩
      go_wp2_with fail
      go_ret;exact ⟨za6 HV.out.symm,d0⟩
  · cases h3 : decide (ot.size=0)
    · have h3' : ¬ ot.size=0:=of_decide_eq_false h3
      have HV : Hid (opOk ⟨2,nm,ot,at_,va,ep⟩=false):=by simp [Hid,opOk,inB,kOther,kAt,kEpoch,kSize,valOk,h3']
      have e1 : ¬ ot.toList = []:=fun h=>h3' (e0.1 h)
      clear e0
      go_wp2_with fail
      go_ret;exact ⟨za6 HV.out.symm,d0⟩
    · have h3' : ot.size=0:=of_decide_eq_true h3
      have e1 : ot.toList = []:=e0.2 h3';clear e0
      go_wp2_with fail
      refine (zb3 at_ 0 255 _).mono ?_;rintro e w' ⟨rfl,rfl⟩;cases h6 : (decide ((0 : Int)<=at_) && decide (at_<=255))
      · have HV : Hid (opOk ⟨2,nm,ot,at_,va,ep⟩=false):=by simp [Hid,opOk,inB,kOther,kAt,kEpoch,kSize,valOk,h6]
        clear h6
        go_wp2_with fail
        go_ret;exact ⟨za6 HV.out.symm,d0⟩
      have H6 : Hid _:=h6;clear h6
      go_wp2_with fail
      refine (zb3 ep 0 1000 _).mono ?_;rintro e w' ⟨rfl,rfl⟩;cases h8 : (decide ((0 : Int)<=ep) && decide (ep<=1000))
      · have HV : Hid (opOk ⟨2,nm,ot,at_,va,ep⟩=false):=by simp [Hid,opOk,inB,kOther,kAt,kEpoch,kSize,valOk,h8]
        clear h8
        go_wp2_with fail
        go_ret;exact ⟨za6 HV.out.symm,d0⟩
      have H8 : Hid _:=h8;clear h8;have HV : Hid (opOk ⟨2,nm,ot,at_,va,ep⟩=(decide ((0 : Int)<=va) && decide (va<=999))):=by simp [Hid,opOk,inB,kOther,kAt,kEpoch,kSize,valOk,H1.out,h3',H6.out,H8.out]
      go_wp2_with fail
      refine (zb3 va 0 999 _).mono ?_;rintro e w' ⟨rfl,rfl⟩
      go_wp2_with fail
      go_ret;exact ⟨za6 HV.out.symm,d0⟩
  · cases h3 : decide (ot.size=0)
    · have h3' : ¬ ot.size=0:=of_decide_eq_false h3
      have HV : Hid (opOk ⟨3,nm,ot,at_,va,ep⟩=false):=by simp [Hid,opOk,inB,kOther,kAt,kEpoch,kSize,valOk,h3']
      have e1 : ¬ ot.toList = []:=fun h=>h3' (e0.1 h)
      clear e0
      go_wp2_with fail
      go_ret;exact ⟨za6 HV.out.symm,d0⟩
    · have h3' : ot.size=0:=of_decide_eq_true h3
      have e1 : ot.toList = []:=e0.2 h3';clear e0
      go_wp2_with fail
      refine (zb3 at_ 0 255 _).mono ?_;rintro e w' ⟨rfl,rfl⟩;cases h6 : (decide ((0 : Int)<=at_) && decide (at_<=255))
      · have HV : Hid (opOk ⟨3,nm,ot,at_,va,ep⟩=false):=by simp [Hid,opOk,inB,kOther,kAt,kEpoch,kSize,valOk,h6]
        clear h6
        go_wp2_with fail
        go_ret;exact ⟨za6 HV.out.symm,d0⟩
      have H6 : Hid _:=h6;clear h6
      go_wp2_with fail
      refine (zb3 ep 0 1000 _).mono ?_;rintro e w' ⟨rfl,rfl⟩;cases h8 : (decide ((0 : Int)<=ep) && decide (ep<=1000))
      · have HV : Hid (opOk ⟨3,nm,ot,at_,va,ep⟩=false):=by simp [Hid,opOk,inB,kOther,kAt,kEpoch,kSize,valOk,h8]
        clear h8
        go_wp2_with fail
        go_ret;exact ⟨za6 HV.out.symm,d0⟩
      have H8 : Hid _:=h8;clear h8;have HV : Hid (opOk ⟨3,nm,ot,at_,va,ep⟩=decide (va=0)):=by simp [Hid,opOk,inB,kOther,kAt,kEpoch,kSize,valOk,H1.out,h3',H6.out,H8.out]
      go_wp2_with fail
      go_ret;exact ⟨za6 HV.out.symm,d0⟩
  · cases h3 : decide (ot.size=0)
    · skip
      have h3' : ¬ ot.size=0:=of_decide_eq_false h3;have h3e : ¬ ot=ByteArray.empty:=fun h=>h3' (by rw [h];rfl)
      have e1 : ¬ ot.toList = []:=fun h=>h3' (e0.1 h)
      have e2 : ot.toList.isEmpty=false:=by rw [Bool.eq_false_iff];exact fun h=>e1 (List.isEmpty_iff.1 h)
      clear e0
      go_wp2_with fail
      refine (zg1 ot _ ho).mono ?_;rintro e w' ⟨rfl,rfl⟩;cases h4 : Nums.nameB ot.data.toList
      · have HV : Hid (opOk ⟨4,nm,ot,at_,va,ep⟩=false):=by simp [Hid,opOk,inB,kOther,kAt,kEpoch,kSize,valOk,h4]
        clear h4
        go_wp2_with fail
        go_ret;exact ⟨za6 HV.out.symm,d0⟩
      have H4 : Hid _:=h4;clear h4;by_cases h5 : ¬ at_=0
      · have HV : Hid (opOk ⟨4,nm,ot,at_,va,ep⟩=false):=by simp [Hid,opOk,inB,kOther,kAt,kEpoch,kSize,valOk,h5]
        have hq : (at_ != 0)=true:=by rw [bne_iff_ne];exact h5
        go_wp2_with fail
        go_ret;exact ⟨za6 HV.out.symm,d0⟩
      obtain rfl : at_=0:=by omega
      clear h5
      go_wp2_with fail
      refine (zb3 0 0 255 _).mono ?_;rintro e w' ⟨rfl,rfl⟩;by_cases h7 : ¬ ep=0
      · have HV : Hid (opOk ⟨4,nm,ot,0,va,ep⟩=false):=by simp [Hid,opOk,inB,kOther,kAt,kEpoch,kSize,valOk,h7]
        have hq : (ep != 0)=true:=by rw [bne_iff_ne];exact h7
        go_wp2_with fail
        go_ret;exact ⟨za6 HV.out.symm,d0⟩
      obtain rfl : ep=0:=by omega
      clear h7
      go_wp2_with fail
      refine (zb3 0 0 1000 _).mono ?_;rintro e w' ⟨rfl,rfl⟩;have HV : Hid (opOk ⟨4,nm,ot,0,va,0⟩=decide (va=0)):=by simp [Hid,opOk,inB,kOther,kAt,kEpoch,kSize,valOk,H1.out,H4.out,h3e]
      go_wp2_with fail
      go_ret;exact ⟨za6 HV.out.symm,d0⟩
    · have h3' : ot.size=0:=of_decide_eq_true h3
      have HV : Hid (opOk ⟨4,nm,ot,at_,va,ep⟩=false):=by simp [Hid,opOk,inB,kOther,kAt,kEpoch,kSize,valOk,h3']
      have e1 : ot.toList = []:=e0.2 h3';have e2 : ot.toList.isEmpty=true:=List.isEmpty_iff.2 e1;clear e0
      go_wp2_with fail
      go_ret;exact ⟨za6 HV.out.symm,d0⟩
  · cases h3 : decide (ot.size=0)
    · skip
      have h3' : ¬ ot.size=0:=of_decide_eq_false h3;have h3e : ¬ ot=ByteArray.empty:=fun h=>h3' (by rw [h];rfl)
      have e1 : ¬ ot.toList = []:=fun h=>h3' (e0.1 h)
      have e2 : ot.toList.isEmpty=false:=by rw [Bool.eq_false_iff];exact fun h=>e1 (List.isEmpty_iff.1 h)
      clear e0
      go_wp2_with fail
      refine (zg1 ot _ ho).mono ?_;rintro e w' ⟨rfl,rfl⟩;cases h4 : Nums.nameB ot.data.toList
      · have HV : Hid (opOk ⟨5,nm,ot,at_,va,ep⟩=false):=by simp [Hid,opOk,inB,kOther,kAt,kEpoch,kSize,valOk,h4]
        clear h4
        go_wp2_with fail
        go_ret;exact ⟨za6 HV.out.symm,d0⟩
      have H4 : Hid _:=h4;clear h4;by_cases h5 : ¬ at_=0
      · have HV : Hid (opOk ⟨5,nm,ot,at_,va,ep⟩=false):=by simp [Hid,opOk,inB,kOther,kAt,kEpoch,kSize,valOk,h5]
        have hq : (at_ != 0)=true:=by rw [bne_iff_ne];exact h5
        go_wp2_with fail
        go_ret;exact ⟨za6 HV.out.symm,d0⟩
      obtain rfl : at_=0:=by omega
      clear h5
      go_wp2_with fail
      refine (zb3 0 0 255 _).mono ?_;rintro e w' ⟨rfl,rfl⟩;by_cases h7 : ¬ ep=0
      · have HV : Hid (opOk ⟨5,nm,ot,0,va,ep⟩=false):=by simp [Hid,opOk,inB,kOther,kAt,kEpoch,kSize,valOk,h7]
        have hq : (ep != 0)=true:=by rw [bne_iff_ne];exact h7
        go_wp2_with fail
        go_ret;exact ⟨za6 HV.out.symm,d0⟩
      obtain rfl : ep=0:=by omega
      clear h7
      go_wp2_with fail
      refine (zb3 0 0 1000 _).mono ?_;rintro e w' ⟨rfl,rfl⟩;have HV : Hid (opOk ⟨5,nm,ot,0,va,0⟩=decide (va=0)):=by simp [Hid,opOk,inB,kOther,kAt,kEpoch,kSize,valOk,H1.out,H4.out,h3e]
      go_wp2_with fail
      go_ret;exact ⟨za6 HV.out.symm,d0⟩
    · have h3' : ot.size=0:=of_decide_eq_true h3
      have HV : Hid (opOk ⟨5,nm,ot,at_,va,ep⟩=false):=by simp [Hid,opOk,inB,kOther,kAt,kEpoch,kSize,valOk,h3']
      have e1 : ot.toList = []:=e0.2 h3';have e2 : ot.toList.isEmpty=true:=List.isEmpty_iff.2 e1;clear e0
      go_wp2_with fail
      go_ret;exact ⟨za6 HV.out.symm,d0⟩
  · cases h3 : decide (ot.size=0)
    · have h3' : ¬ ot.size=0:=of_decide_eq_false h3
      have HV : Hid (opOk ⟨6,nm,ot,at_,va,ep⟩=false):=by simp [Hid,opOk,inB,kOther,kAt,kEpoch,kSize,valOk,h3']
      have e1 : ¬ ot.toList = []:=fun h=>h3' (e0.1 h)
      clear e0
      go_wp2_with fail
      go_ret;exact ⟨za6 HV.out.symm,d0⟩
    · have h3' : ot.size=0:=of_decide_eq_true h3
      have e1 : ot.toList = []:=e0.2 h3';clear e0;by_cases h5 : ¬ at_=0
      · have HV : Hid (opOk ⟨6,nm,ot,at_,va,ep⟩=false):=by simp [Hid,opOk,inB,kOther,kAt,kEpoch,kSize,valOk,h5]
        have hq : (at_ != 0)=true:=by rw [bne_iff_ne];exact h5
        go_wp2_with fail
        go_ret;exact ⟨za6 HV.out.symm,d0⟩
      obtain rfl : at_=0:=by omega
      clear h5
      go_wp2_with fail
      refine (zb3 0 0 255 _).mono ?_;rintro e w' ⟨rfl,rfl⟩
      go_wp2_with fail
      refine (zb3 ep 0 1000 _).mono ?_;rintro e w' ⟨rfl,rfl⟩;cases h8 : (decide ((0 : Int)<=ep) && decide (ep<=1000))
      · have HV : Hid (opOk ⟨6,nm,ot,0,va,ep⟩=false):=by simp [Hid,opOk,inB,kOther,kAt,kEpoch,kSize,valOk,h8]
        clear h8
        go_wp2_with fail
        go_ret;exact ⟨za6 HV.out.symm,d0⟩
      have H8 : Hid _:=h8;clear h8;have HV : Hid (opOk ⟨6,nm,ot,0,va,ep⟩=decide (va=0)):=by simp [Hid,opOk,inB,kOther,kAt,kEpoch,kSize,valOk,H1.out,h3',H8.out]
      go_wp2_with fail
      go_ret;exact ⟨za6 HV.out.symm,d0⟩
  · cases h3 : decide (ot.size=0)
    · have h3' : ¬ ot.size=0:=of_decide_eq_false h3
      have HV : Hid (opOk ⟨7,nm,ot,at_,va,ep⟩=false):=by simp [Hid,opOk,inB,kOther,kAt,kEpoch,kSize,valOk,h3']
      have e1 : ¬ ot.toList = []:=fun h=>h3' (e0.1 h)
      clear e0
      go_wp2_with fail
      go_ret;exact ⟨za6 HV.out.symm,d0⟩
    · have h3' : ot.size=0:=of_decide_eq_true h3
      have e1 : ot.toList = []:=e0.2 h3';clear e0;by_cases h5 : ¬ at_=0
      · have HV : Hid (opOk ⟨7,nm,ot,at_,va,ep⟩=false):=by simp [Hid,opOk,inB,kOther,kAt,kEpoch,kSize,valOk,h5]
        have hq : (at_ != 0)=true:=by rw [bne_iff_ne];exact h5
        go_wp2_with fail
        go_ret;exact ⟨za6 HV.out.symm,d0⟩
      obtain rfl : at_=0:=by omega
      clear h5
      go_wp2_with fail
      refine (zb3 0 0 255 _).mono ?_;rintro e w' ⟨rfl,rfl⟩
      go_wp2_with fail
      refine (zb3 ep 0 1000 _).mono ?_;rintro e w' ⟨rfl,rfl⟩;cases h8 : (decide ((0 : Int)<=ep) && decide (ep<=1000))
      · have HV : Hid (opOk ⟨7,nm,ot,0,va,ep⟩=false):=by simp [Hid,opOk,inB,kOther,kAt,kEpoch,kSize,valOk,h8]
        clear h8
        go_wp2_with fail
        go_ret;exact ⟨za6 HV.out.symm,d0⟩
      have H8 : Hid _:=h8;clear h8;have HV : Hid (opOk ⟨7,nm,ot,0,va,ep⟩=(decide ((1 : Int)<=va) && decide (va<=16))):=by simp [Hid,opOk,inB,kOther,kAt,kEpoch,kSize,valOk,H1.out,h3',H8.out]
      go_wp2_with fail
      refine (zb3 va 1 16 _).mono ?_;rintro e w' ⟨rfl,rfl⟩
      go_wp2_with fail
      go_ret;exact ⟨za6 HV.out.symm,d0⟩
  · cases h3 : decide (ot.size=0)
    · have h3' : ¬ ot.size=0:=of_decide_eq_false h3
      have HV : Hid (opOk ⟨8,nm,ot,at_,va,ep⟩=false):=by simp [Hid,opOk,inB,kOther,kAt,kEpoch,kSize,valOk,h3']
      have e1 : ¬ ot.toList = []:=fun h=>h3' (e0.1 h)
      clear e0
      go_wp2_with fail
      go_ret;exact ⟨za6 HV.out.symm,d0⟩
    · have h3' : ot.size=0:=of_decide_eq_true h3
      have e1 : ot.toList = []:=e0.2 h3';clear e0;by_cases h5 : ¬ at_=0
      · have HV : Hid (opOk ⟨8,nm,ot,at_,va,ep⟩=false):=by simp [Hid,opOk,inB,kOther,kAt,kEpoch,kSize,valOk,h5]
        have hq : (at_ != 0)=true:=by rw [bne_iff_ne];exact h5
        go_wp2_with fail
        go_ret;exact ⟨za6 HV.out.symm,d0⟩
      obtain rfl : at_=0:=by omega
      clear h5
      go_wp2_with fail
      refine (zb3 0 0 255 _).mono ?_;rintro e w' ⟨rfl,rfl⟩;by_cases h7 : ¬ ep=0
      · have HV : Hid (opOk ⟨8,nm,ot,0,va,ep⟩=false):=by simp [Hid,opOk,inB,kOther,kAt,kEpoch,kSize,valOk,h7]
        have hq : (ep != 0)=true:=by rw [bne_iff_ne];exact h7
        go_wp2_with fail
        go_ret;exact ⟨za6 HV.out.symm,d0⟩
      obtain rfl : ep=0:=by omega
      clear h7
      go_wp2_with fail
      refine (zb3 0 0 1000 _).mono ?_;rintro e w' ⟨rfl,rfl⟩;have HV : Hid (opOk ⟨8,nm,ot,0,va,0⟩=decide (va=0)):=by simp [Hid,opOk,inB,kOther,kAt,kEpoch,kSize,valOk,H1.out,h3']
      go_wp2_with fail
      go_ret;exact ⟨za6 HV.out.symm,d0⟩
  · cases h3 : decide (ot.size=0)
    · have h3' : ¬ ot.size=0:=of_decide_eq_false h3
      have HV : Hid (opOk ⟨9,nm,ot,at_,va,ep⟩=false):=by simp [Hid,opOk,inB,kOther,kAt,kEpoch,kSize,valOk,h3']
      have e1 : ¬ ot.toList = []:=fun h=>h3' (e0.1 h)
      clear e0
      go_wp2_with fail
      go_ret;exact ⟨za6 HV.out.symm,d0⟩
    · have h3' : ot.size=0:=of_decide_eq_true h3
      have e1 : ot.toList = []:=e0.2 h3';clear e0
      go_wp2_with fail
      refine (zb3 at_ 0 255 _).mono ?_;rintro e w' ⟨rfl,rfl⟩;cases h6 : (decide ((0 : Int)<=at_) && decide (at_<=255))
      · have HV : Hid (opOk ⟨9,nm,ot,at_,va,ep⟩=false):=by simp [Hid,opOk,inB,kOther,kAt,kEpoch,kSize,valOk,h6]
        clear h6
        go_wp2_with fail
        go_ret;exact ⟨za6 HV.out.symm,d0⟩
      have H6 : Hid _:=h6;clear h6;by_cases h7 : ¬ ep=0
      · have HV : Hid (opOk ⟨9,nm,ot,at_,va,ep⟩=false):=by simp [Hid,opOk,inB,kOther,kAt,kEpoch,kSize,valOk,h7]
        have hq : (ep != 0)=true:=by rw [bne_iff_ne];exact h7
        go_wp2_with fail
        go_ret;exact ⟨za6 HV.out.symm,d0⟩
      obtain rfl : ep=0:=by omega
      clear h7
      go_wp2_with fail
      refine (zb3 0 0 1000 _).mono ?_;rintro e w' ⟨rfl,rfl⟩;have HV : Hid (opOk ⟨9,nm,ot,at_,va,0⟩=decide (va=0)):=by simp [Hid,opOk,inB,kOther,kAt,kEpoch,kSize,valOk,H1.out,h3',H6.out]
      go_wp2_with fail
      go_ret;exact ⟨za6 HV.out.symm,d0⟩
def zdt (o : Oq) : Bool:=opOk o && decide (o.k ≠ 9)
theorem zk4 (k : Int) (nm ot : ByteArray) (at_ va ep : Int) (w : World) (hn : nm.size<=maxLen) (ho : ot.size<=maxLen) :
    Calls Tryz.prog 176 #[.agg #[.int .i64 k,.string nm,.string ot,.int .i64 at_,.int .i64 va,.int .i64 ep]] w fun e w'=>e = .returned (.bool (zdt ⟨k,nm,ot,at_,va,ep⟩))/\Below w.heap.size w w':=by
  obtain ⟨W0,hW0,k0,d0,z0⟩:=zb4 w #[.int .i64 k,.string nm,.string ot,.int .i64 at_,.int .i64 va,.int .i64 ep] 37;have HW0 : Hid (W0 = _):=hW0;clear hW0
  go_enter Tryz.func176,Tryz.ntmps176
  go_wp2_with fail
  rw [<- HW0.out];clear HW0;refine (zbl k nm ot at_ va ep _ hn ho).mono ?_;rintro e w1 ⟨rfl,b1⟩;replace k0:=(b1.block _ (by omega)).trans k0;replace d0:=za1 d0 b1;have p0:=za0 k0 0;have HC : Hid (zdt ⟨k,nm,ot,at_,va,ep⟩=(opOk ⟨k,nm,ot,at_,va,ep⟩ && decide (k ≠ 9))):=rfl;have hd : (k != 9)=decide (k ≠ 9):=by rw [Bool.eq_iff_iff];simp
  generalize opOk ⟨k,nm,ot,at_,va,ep⟩=q at HC ⊢;clear k0 b1;cases q
  · go_wp2_with fail
    go_ret;exact ⟨za6 (by rw [HC.out];rfl),d0⟩
  · go_wp2_with fail
    go_ret;exact ⟨za6 (by rw [HC.out];simp),d0⟩
theorem zgt (bs : List Pb) (n : ByteArray) (q : Nat) (hq : q<=bs.length) (h1 : ∀ j (hj : j < bs.length),j < q->ltB bs[j].nm n=true) (h2 : ∀ h : q < bs.length,ltB bs[q].nm n=false) : zbp bs n=q:=by
  unfold zbp
  induction bs generalizing q with
  | nil=>simp at hq;simp [hq]
  | cons b t ih =>
    cases q with
    | zero =>
      have:=h2 (by simp);simp only [List.getElem_cons_zero] at this;rw [List.takeWhile_cons,this]
      rfl
    | succ q =>
      have h0:=h1 0 (by simp) (by omega);simp only [List.getElem_cons_zero] at h0;rw [List.takeWhile_cons,h0];simp only [if_true,List.length_cons];have:=ih q (by simpa using hq) (fun j hj hl=>by have:=h1 (j+1) (by simpa using hj) (by omega);simpa using this) (fun h=>by have:=h2 (by simpa using h);simpa using this)
      omega
theorem zpb (bs : List Pb) (n : ByteArray) : zbp bs n<=bs.length:=by
  unfold zbp;exact (List.takeWhile_sublist _).length_le
theorem znf (l : List Int) (a m : Nat) (h : a+m < l.length) : (l.drop a).take (m+1)=(l.drop a).take m ++ [l.getD (a+m) 0]:=by
  have h' : m < (l.drop a).length:=by rw [List.length_drop];omega
  rw [List.take_succ_eq_append_getElem h',ze9 l (a+m) h,List.getElem_drop]
theorem zo0 (s : List Int × List Int) (l : List Int) (a m : Nat) (h : a+m < l.length) : dropAll s ((l.drop a).take (m+1))=dropOne (dropAll s ((l.drop a).take m)) (l.getD (a+m) 0):=by
  rw [znf l a m h,dropAll,dropAll,List.foldl_append]
  rfl
theorem zhl (cs : List Int) (l : List Int) (m : Nat) (h : m < l.length) : shareAll cs (l.take (m+1))=(shareAll cs (l.take m)).set l[m].toNat ((shareAll cs (l.take m)).getD l[m].toNat 0+1):=by
  rw [List.take_succ_eq_append_getElem h,shareAll,shareAll,List.foldl_append]
  rfl
theorem zl5 (l : List Int) (a m : Nat) (p : Int) : ((l.drop a).take m).count p<=l.count p :=
  ((List.take_sublist _ _).trans (List.drop_sublist _ _)).count_le p
theorem zvj {s : Sf} (h : ShInv s) (i : Nat) (hi : i < s.bs.length) (a m : Nat) (hm : a+m < 16) :
    Cells s.cs.length (dropAll (s.cs,s.ps) (((za7 s.bs[i].rs).drop a).take m)).1 (dropAll (s.cs,s.ps) (((za7 s.bs[i].rs).drop a).take m)).2 /\
    (0<=(za7 s.bs[i].rs).getD (a+m) 0->((za7 s.bs[i].rs).getD (a+m) 0).toNat < s.cs.length/\1<=(dropAll (s.cs,s.ps) (((za7 s.bs[i].rs).drop a).take m)).1.getD ((za7 s.bs[i].rs).getD (a+m) 0).toNat 0/\(dropAll (s.cs,s.ps) (((za7 s.bs[i].rs).drop a).take m)).1.getD ((za7 s.bs[i].rs).getD (a+m) 0).toNat 0<=400):=by
  have hl:=zac s.bs[i].rs
  have hin : ∀ p ∈ ((za7 s.bs[i].rs).drop a).take m,p < (s.cs.length : Int):=fun p hp=>by
    have hp' : p ∈ za7 s.bs[i].rs:=List.mem_of_mem_drop (List.mem_of_mem_take hp);by_cases h0 : 0<=p
    · exact (h.page i hi p hp' h0).1
    · omega
  have hcn : ∀ k,k < s.cs.length->((((za7 s.bs[i].rs).drop a).take m).count (k : Int) : Int)<=s.cs.getD k 0:=fun k hk=>by
    have h1:=zhc h i hi k hk;have h2:=zl5 (za7 s.bs[i].rs) a m (k : Int);unfold Pb.cnt at h1
    omega
  obtain ⟨h1,h2⟩:=zkw _ h.cells hin hcn;refine ⟨h1,fun h0=>?_⟩;obtain ⟨k,hk⟩:=Int.eq_ofNat_of_zero_le h0;have hp' : (k : Int) ∈ za7 s.bs[i].rs:=by rw [<- hk];exact (zct _ hl _).2 ⟨a+m,hm,rfl⟩
  have hkn:=(h.page i hi _ hp' (by omega)).1;have hkn' : k < s.cs.length:=by omega
  rw [hk,Int.toNat_natCast];rw [h2 k hkn'];have hc1:=zhc h i hi k hkn';have hc2:=zl5 (za7 s.bs[i].rs) a (m+1) (k : Int);rw [znf _ a m (by omega),hk,List.count_append,List.count_singleton_self] at hc2;have hc3:=h.cnt k hkn';have hc4:=ze5 s.bs (k : Int);have hc5:=h.few;unfold Pb.cnt at hc1;refine ⟨hkn',by omega,by omega⟩
theorem zvk {s : Sf} (i : Nat) (hi : i < s.bs.length) (a m : Nat) (h : 16<=a+m) : dropAll (s.cs,s.ps) (((za7 s.bs[i].rs).drop a).take m)=dropAll (s.cs,s.ps) ((za7 s.bs[i].rs).drop a):=by
  rw [List.take_of_length_le (by rw [List.length_drop,zac];omega)]
theorem zl6 {s : Sf} (h : ShInv s) (i : Nat) (hi : i < s.bs.length) (q : Nat) :
    (shareAll s.cs ((pagesOf s.bs[i].rs).take q)).length=s.cs.length /\
    ∀ hq : q < (pagesOf s.bs[i].rs).length,0<=(pagesOf s.bs[i].rs)[q]/\(pagesOf s.bs[i].rs)[q].toNat < s.cs.length/\(0<=(shareAll s.cs ((pagesOf s.bs[i].rs).take q)).getD (pagesOf s.bs[i].rs)[q].toNat 0/\(shareAll s.cs ((pagesOf s.bs[i].rs).take q)).getD (pagesOf s.bs[i].rs)[q].toNat 0<=400):=by
  have hm:=(zaw (h.oks _ (List.getElem_mem hi))).2.2.2.1
  have hsub : ∀ p ∈ pagesOf s.bs[i].rs,0<=p/\p ∈ za7 s.bs[i].rs:=fun p hp=>by
    rw [pagesOf,if_pos hm,List.mem_filter,decide_eq_true_eq] at hp;exact ⟨hp.2,hp.1⟩
  have hlen : (pagesOf s.bs[i].rs).length<=16:=by
    rw [pagesOf,if_pos hm];have:=List.length_filter_le (fun p=>decide (0<=p)) (za7 s.bs[i].rs);rw [zac] at this;exact this
  have h1 : ∀ p ∈ (pagesOf s.bs[i].rs).take q,0<=p/\p < (s.cs.length : Int):=fun p hp=>by
    obtain ⟨a,b⟩:=hsub p (List.mem_of_mem_take hp);exact ⟨a,(h.page i hi p b a).1⟩
  have h2 : ∀ p ∈ (pagesOf s.bs[i].rs).take q,1<=s.cs.getD p.toNat 0:=fun p hp=>by
    obtain ⟨a,b⟩:=hsub p (List.mem_of_mem_take hp);exact (h.page i hi p b a).2
  obtain ⟨c1,c2⟩:=zjo _ h.cells h1 h2;refine ⟨c1.c,fun hq=>?_⟩;obtain ⟨a,b⟩:=hsub _ (List.getElem_mem hq);obtain ⟨d,e⟩:=h.page i hi _ b a;have hlt : (pagesOf s.bs[i].rs)[q].toNat < s.cs.length:=by omega
  refine ⟨a,hlt,?_⟩;have h3:=c2 _ hlt;have h4:=h.cnt _ hlt;have h5:=ze5 s.bs ((pagesOf s.bs[i].rs)[q].toNat : Int);have h6:=zcx s.bs ((pagesOf s.bs[i].rs)[q].toNat : Int);have h7:=h.few
  have h8 : ((pagesOf s.bs[i].rs).take q).count (((pagesOf s.bs[i].rs)[q].toNat : Nat) : Int)<=16:=by
    have h:=List.count_le_length (a:=(((pagesOf s.bs[i].rs)[q].toNat : Nat) : Int)) (l:=(pagesOf s.bs[i].rs).take q);rw [List.length_take] at h
    omega
  omega
theorem zcf (w : World) : (w.alloc (.cells #[] 117)).ownsRow w.heap.size 117 5 (.slice (some ⟨w.heap.size,0,none⟩) 0 0) 0 []:=World.ownsRow_lit w #[] 0 (Nat.le_refl _) (Nat.zero_le _) rfl
theorem OwnB.upto {base c : Nat} {w w' : World} {v : Value} {bs : List Bk} (h : OwnB base w v bs) (u : Upto c w w') (hc : c < base) : OwnB base w' v bs:=⟨zbc h.row u hc,fun b hb=>zbc (h.maps b hb) u hc⟩
theorem zci {B : Nat} {w w' : World} {v1 v2 v : Value} {e : TypeId} {k n : Nat} {xs : List Value} (h : w.ownsRow B e k v n xs) (ko : Only (fun i=>v1.ownBlock=some i\/v2.ownBlock=some i) w w') (hlt : ∀ g,v1.ownBlock=some g\/v2.ownBlock=some g->g < B) : w'.ownsRow B e k v n xs :=
  zbd h ko (fun g hg hS=>by
    have h1:=(h.lt g hg).1;have h2:=hlt g hS
    omega)
theorem zl7 {cs ps : List Int} {p : Int} {k : Nat} (h : p=k) : dropOne (cs,ps) p=(cs.set k (cs.getD k 0 - 1),if cs.getD k 0=1 then ps.set k 0 else ps):=by
  subst h;unfold dropOne;rw [if_pos (by omega),Int.toNat_natCast]
theorem zpc {s : List Int × List Int} {p : Int} (h : ¬ 0<=p) : dropOne s p=s:=by
  unfold dropOne;rw [if_neg h]
def DoPost (base b : Nat) (v1 v2 : Value) (s : Sf) (o : Oq) (w : World) (e : Ending) (w' : World) : Prop :=
  ∃ (vb' : Value) (bks' : List Bk),e = .returned (.agg #[.int .i64 (doOp s o).2.1,.int .i64 (doOp s o).2.2])/\ShSt base b w' v1 v2 vb' bks' (doOp s o).1/\Below base w w'
theorem DoPost.drew {base b : Nat} {v1 v2 : Value} {s : Sf} {o : Oq} {w w' : World} {e : Ending} (h : DoPost base b v1 v2 s o w e w') : DoPost base b v1 v2 s o w e w'.drew:=by
  obtain ⟨vb,bks,h1,h2,h3⟩:=h;exact ⟨vb,bks,h1,h2.below ((Below.refl _ _).drew),h3.drew⟩
theorem zvl (a b : Int) (w : World) :
    Calls Tryz.prog 144 #[.int .i64 a,.int .i64 b] w fun e w'=>e = .returned (.int .i64 (min a b))/\w'=w:=by
  by_cases h : a < b
  · have hm : min a b=a:=by omega
    rw [hm]
    go_enter Tryz.func144,Tryz.ntmps144
    go_wp2
    go_ret;exact ⟨rfl,rfl⟩
  · have hm : min a b=b:=by omega
    rw [hm]
    go_enter Tryz.func144,Tryz.ntmps144
    go_wp2
    go_ret;exact ⟨rfl,rfl⟩
theorem zjq {s : Sf} {o : Oq} (inv : ShInv s) (hok : opOk o=true) (href : za5 s.bs o=0) (hk : o.k ≠ 1) : 0<=o.at_/\o.at_ < 16:=by
  have h0:=(zkl o hok).2.2.2.1.1;refine ⟨h0,?_⟩;cases ha : kAt o.k
  · simp only [opOk,Bool.and_eq_true,ha,Bool.false_or,decide_eq_true_eq] at hok
    omega
  · obtain ⟨a1,-,-,a4,-⟩:=zbk href
    obtain ⟨i,hi,hf,-⟩:=zhd s.bs o.nm (by have:=a1 hk;omega);have h1:=a4 hk ha;rw [hf,zbz s.bs i hi] at h1;have h2:=(zaw (inv.oks _ (List.getElem_mem hi))).2.1
    omega
theorem zig {s : Sf} {o : Oq} {i : Nat} {B : Pb} (hok : opOk o=true) (href : za5 s.bs o=0) (hk : o.k ≠ 1/\o.k ≠ 6/\kOther o.k=false) (hfp : findP s.bs o.nm=i) (hbk : zau s.bs (findP s.bs o.nm)=B) (ha : o.at_ < 16) : doOp s o=doKind s o i B ((za7 B.rs).getD o.at_.toNat 0):=by
  rw [doOp,if_neg (by rw [hok];decide),if_neg (by rw [href];decide),if_neg hk.1,if_neg hk.2.1,if_neg (by rw [hk.2.2];decide),hbk,hfp,if_pos ha,Int.toNat_natCast]
theorem kind_9 (s : Sf) (nm ot : ByteArray) (at_ va ep : Int) (i : Nat) (B : Pb) (page : Int) : doKind s ⟨9,nm,ot,at_,va,ep⟩ i B page=(s,(0,if page < 0 then 0 else s.ps.getD page.toNat 0)):=rfl
theorem zys (s : Sf) (nm ot : ByteArray) (at_ va ep : Int) (i : Nat) (B : Pb) (page : Int) : doKind s ⟨8,nm,ot,at_,va,ep⟩ i B page=(⟨s.cs,s.ps,s.bs.set i ⟨B.nm,B.sz,B.rs,B.fx,B.ep+1⟩⟩,(0,B.ep+1)):=rfl
theorem kind_7 (s : Sf) (nm ot : ByteArray) (at_ va ep : Int) (i : Nat) (B : Pb) (page : Int) : doKind s ⟨7,nm,ot,at_,va,ep⟩ i B page=(⟨(cutBook s i va.toNat).cs,(cutBook s i va.toNat).ps,(cutBook s i va.toNat).bs.set i { zau (cutBook s i va.toNat).bs i with sz:=va }⟩,(0,0)):=rfl
theorem kind_3 (s : Sf) (nm ot : ByteArray) (at_ va ep : Int) (i : Nat) (B : Pb) (page : Int) : doKind s ⟨3,nm,ot,at_,va,ep⟩ i B page=(if 0<=page then (⟨(dropOne (s.cs,s.ps) page).1,(dropOne (s.cs,s.ps) page).2,s.bs.set i ⟨B.nm,B.sz,mapOf ((za7 B.rs).set at_.toNat (-1)),B.fx,B.ep⟩⟩,(0,0)) else (s,(0,0))):=rfl
theorem kind_2 (s : Sf) (nm ot : ByteArray) (at_ va ep : Int) (i : Nat) (B : Pb) (page : Int) : doKind s ⟨2,nm,ot,at_,va,ep⟩ i B page=doWrite s i B ⟨2,nm,ot,at_,va,ep⟩ page:=rfl
theorem zi0 {base : Nat} {w : World} {ob : Option Addr} {n cap k : Nat} {xs : List Value} (h : w.ownsRow base 2 1 (.slice ob n cap) k xs) (hi : 0 < k) : ∃ g,ob=some ⟨g,0,none⟩:=by
  rcases h.2 with ⟨_,h0⟩ | ⟨g,cap',cur,e,_⟩
  · omega
  · simp only [Value.slice.injEq] at e
    exact ⟨g,e.1⟩
theorem ShSt.beside {base b gp j B n cap k : Nat} {w : World} {v1 v2 vb : Value} {bks : List Bk} {s : Sf} {xs : List Value} (h : ShSt base b w v1 v2 vb bks s) (hrow : w.ownsRow B 2 1 (.slice (some ⟨gp,0,none⟩) n cap) k xs) (hlt : ∀ q,v1.ownBlock=some q\/v2.ownBlock=some q->q < B) (u : Value) : ShSt base b (w.setCell ⟨gp,j,none⟩ u) v1 v2 vb bks s:=by
  have ub : Upto gp w (w.setCell ⟨gp,j,none⟩ u):=(Upto.refl _ _).setCell ⟨gp,j,none⟩ (.inl rfl) _;have hB:=(hrow.lt gp rfl).1
  have ap : ∀ (e : TypeId) (kk n : Nat) (v : Value) (xs : List Value),w.ownsRow base e kk v n xs->v.ownBlock ≠ some gp->(w.setCell ⟨gp,j,none⟩ u).ownsRow base e kk v n xs:=fun e kk n v xs hr hne =>
    zai hr (fun q hq hqv=>ub.block q hq (fun hx=>hne (by rw [<- hx];exact hqv)))
  refine ⟨(ub.block b (za2 h.box) (fun e=>?_)).trans h.box,h.lo,⟨ap _ _ _ _ _ h.pool.c (fun e=>?_),ap _ _ _ _ _ h.pool.p (fun e=>?_),h.pool.apart⟩,⟨ap _ _ _ _ _ h.books.row (zbh h.books.row hrow (by decide) gp rfl),fun x hx=>ap _ _ _ _ _ (h.books.maps x hx) (zbh (h.books.maps x hx) hrow (by decide) gp rfl)⟩,h.eq⟩
  · exact zaa hrow h.box (by decide) (by rw [e];rfl)
  · have:=hlt gp (.inl e);omega
  · have:=hlt gp (.inr e);omega
theorem zdn {base : Nat} {w : World} {ob : Option Addr} {n cap : Nat} {bks : List Bk} (h : w.ownsRow base 117 5 (.slice ob n cap) bks.length (bks.flatMap bookC)) (hi : 0 < bks.length) : ∃ g,ob=some ⟨g,0,none⟩:=by
  rcases h.2 with ⟨_,h0⟩ | ⟨g,cap',cur,e,_⟩
  · omega
  · simp only [Value.slice.injEq] at e
    exact ⟨g,e.1⟩
end Go.Proofs.YtfkkapdofjhgpaaGreatDoor
